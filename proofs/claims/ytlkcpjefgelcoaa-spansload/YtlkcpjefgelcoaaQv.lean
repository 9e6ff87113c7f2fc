/- Plain lists of spans: what each call makes of them, and of the pages; no statement is proved in this text. -/
import Derived.Test.YtlkcpjefgelcoaaTf
namespace Go.Proofs.Ytlkcpjefgelcoaa

def Gl (L : List Sp) : Gr := fun r g => cel L ((r : Int) + 1) (g : Int)
theorem cov_meet {s x : Sp} {p g : Int} (h1 : cov p g s = true) (h2 : cov p g x = true) : meetF (ar s) (ar x) = true := by
  rw [cov_iff] at h1 h2
  exact meetF_iff.2 ⟨by show x.1 = s.1; omega, by show x.2.1 < s.2.1 + s.2.2.1; omega, by show s.2.1 < x.2.1 + x.2.2.1; omega⟩
theorem beg_self (s : Sp) : beg s.1 s.2.1 s = true := beg_iff.2 ⟨rfl, rfl⟩
theorem lay_meet {L : List Sp} {s : Sp} (h : layB (L.map ar) (ar s) = true) : ∀ x ∈ L, meetF (ar s) (ar x) = false := fun _ hx => (layB_iff.1 h).2 _ (List.mem_map_of_mem hx)
theorem GS.snoc {L : List Sp} (h : GS L) {s : Sp} (ha : Ytlkcpjefgelcoaa.isA (ar s) = true) (hl : layB (L.map ar) (ar s) = true) (hp : s.2.2.2 = 1 ∨ s.2.2.2 = 3) : GS (L ++ [s]) :=
  ⟨by rw [List.map_append]; exact .snoc h.good ha hl, fun x hx => by
    rcases List.mem_append.1 hx with hx | hx
    · exact h.prot x hx
    · rw [List.mem_singleton.1 hx]; exact hp⟩
theorem cel_snoc {L : List Sp} {s : Sp} (hm : ∀ x ∈ L, meetF (ar s) (ar x) = false) (p g : Int) : cel (L ++ [s]) p g = if cov p g s = true then (s.2.1, s.2.2.2) else cel L p g := by
  unfold cel
  rw [List.find?_append]
  by_cases hc : cov p g s = true
  · have hn : L.find? (cov p g) = none := List.find?_eq_none.2 fun x hx hx2 => by
      have := cov_meet hc hx2
      rw [hm x hx] at this; cases this
    rw [hn, if_pos hc]
    simp [hc]
  · rw [if_neg hc]
    cases hf : L.find? (cov p g) with
    | some x => simp
    | none => simp [hc]
/-- The walk over the pages meets each span of a process once. -/
theorem upL_snoc {L : List Sp} {s : Sp} (hs : 0 ≤ s.2.1) (hn : ∀ x ∈ L, beg s.1 s.2.1 x = false) (p : Int) : ∀ k : Nat, (upL (L ++ [s]) p k).length = (upL L p k).length + if s.1 = p ∧ s.2.1 < k then 1 else 0
  | 0 => by rw [if_neg (by omega)]; rfl
  | k + 1 => by
    rw [upL_succ, upL_succ, List.length_append, List.length_append, upL_snoc hs hn p k, List.find?_append]
    by_cases hb : beg p k s = true
    · obtain ⟨e1, e2⟩ := beg_iff.1 hb
      have hf : L.find? (beg p k) = none := List.find?_eq_none.2 fun x hx hx2 => by
        have := hn x hx
        rw [e1, e2] at this
        rw [this] at hx2; cases hx2
      rw [hf, if_neg (by omega), if_pos (by omega)]
      simp [hb]
    · have hb' : ¬(s.1 = p ∧ s.2.1 = (k : Int)) := fun h => hb (beg_iff.2 h)
      have e : (if s.1 = p ∧ s.2.1 < ((k + 1 : Nat) : Int) then 1 else 0) = if s.1 = p ∧ s.2.1 < (k : Int) then 1 else 0 := by
        by_cases h1 : s.1 = p ∧ s.2.1 < (k : Int)
        · rw [if_pos h1, if_pos (by omega)]
        · rw [if_neg h1, if_neg (by omega)]
      rw [e]
      cases hf : L.find? (beg p k) with
      | some x => simp; omega
      | none => simp [hb]
theorem no_beg {L : List Sp} (hL : ∀ x ∈ L, 1 ≤ x.2.2.1) {s : Sp} (h1 : 1 ≤ s.2.2.1) (hm : ∀ x ∈ L, meetF (ar s) (ar x) = false) : ∀ x ∈ L, beg s.1 s.2.1 x = false := fun x hx => by
  cases hb : beg s.1 s.2.1 x
  · rfl
  · obtain ⟨e1, e2⟩ := beg_iff.1 hb
    have := hL x hx
    have hM := hm x hx
    have : meetF (ar s) (ar x) = true := meetF_iff.2 ⟨e1, by show x.2.1 < s.2.1 + s.2.2.1; omega, by show s.2.1 < x.2.1 + x.2.2.1; omega⟩
    rw [hM] at this; cases this
theorem of_cnt0 : ∀ (n : Nat) (L : List Sp), L.length = n → Good (L.map ar) → ∀ p, (ofL L p).length = cntL (L.map ar) p
  | 0, L, hn, _, p => by
    rw [List.eq_nil_of_length_eq_zero hn]
    rfl
  | n + 1, L, hn, hg, p => by
    rcases List.eq_nil_or_concat L with e | ⟨X, s, e⟩
    · rw [e] at hn; simp at hn
    · rw [List.concat_eq_append] at e
      subst e
      rw [List.map_append] at hg ⊢
      obtain ⟨g1, g2, g3⟩ := hg.inv _ _ rfl
      have ih := of_cnt0 n X (by simpa using hn) g1 p
      have ha := isA_of g2
      have h0 : 0 ≤ s.2.1 := ha.2.2.1
      have h16 : s.2.1 + s.2.2.1 ≤ 16 := ha.2.2.2.2
      have h1 : 1 ≤ s.2.2.1 := ha.2.2.2.1
      unfold ofL at ih ⊢
      rw [upL_snoc h0 (no_beg (fun x hx => (isA_of (g1.isA _ (List.mem_map_of_mem hx))).2.2.2.1) h1 (lay_meet g3)), ih, cntL_app]
      congr 1
      show _ = cntL [ar s] p
      rw [cntL_one]
      by_cases hp : s.1 = p
      · rw [if_pos ⟨hp, by show s.2.1 < ((16 : Nat) : Int); omega⟩, if_pos (show (ar s).1 = p from hp)]
      · rw [if_neg (fun h => hp h.1), if_neg (show ¬(ar s).1 = p from hp)]
theorem GS.cnt {L : List Sp} (h : GS L) (p : Int) : (Ytlkcpjefgelcoaa.ofL L p).length = cntL (L.map ar) p := of_cnt0 _ L rfl h.good p
theorem GS.four {L : List Sp} (h : GS L) (p : Int) : (Ytlkcpjefgelcoaa.ofL L p).length ≤ 4 := by rw [h.cnt]; exact h.good.cnt p
theorem GS.has {L : List Sp} (h : GS L) (p g : Int) : hasL (L.map ar) p g = !decide (Ytlkcpjefgelcoaa.cel L p g = (0, 0)) := by
  cases hh : hasL (L.map ar) p g
  · rw [hasL, List.any_eq_false] at hh
    rw [cel_none fun s hs => by show withF p g (ar s) = false; simpa using hh _ (List.mem_map_of_mem hs)]
    rfl
  · rw [hasL, List.any_eq_true] at hh
    obtain ⟨a, ha, hw⟩ := hh
    obtain ⟨s, hs, rfl⟩ := List.mem_map.1 ha
    have hc : cov p g s = true := hw
    have : Ytlkcpjefgelcoaa.cel L p g ≠ (0, 0) := fun e => by rw [h.celz] at e; rw [e s hs] at hc; cases hc
    simp [this]
/-- A page of these is taken, just if one meets. -/
theorem GS.any {L : List Sp} (h : GS L) (r f n : Nat) (hn : 1 ≤ n) : anyZ (fun k => Gl L r (f + k)) n = (L.map ar).any (meetF ((r : Int) + 1, (f : Int), (n : Int))) := by
  cases hA : anyZ (fun k => Gl L r (f + k)) n
  · symm
    refine page_meet h.good.isA (by show (1 : Int) ≤ n; omega) fun g g1 g2 => ?_
    unfold anyZ at hA
    rw [List.any_eq_false] at hA
    have g1 : (f : Int) ≤ g := g1
    have g2 : g < (f : Int) + n := g2
    have := hA (g - f).toNat (List.mem_range.2 (by omega))
    rw [h.has]
    have e : ((f + (g - f).toNat : Nat) : Int) = g := by omega
    simp only [Gl, e] at this
    simpa using this
  · symm
    unfold anyZ at hA
    rw [List.any_eq_true] at hA
    obtain ⟨k, hk, hc⟩ := hA
    have hk := List.mem_range.1 hk
    refine meet_page (g := ((f + k : Nat) : Int)) (by show (f : Int) ≤ _; omega) (by show _ < (f : Int) + n; omega) ?_
    rw [h.has]
    exact hc
/-- Pages that a new span has. -/
theorem fill_snoc {L : List Sp} (r f n : Nat) (o : Int) (hm : ∀ x ∈ L, meetF ((r : Int) + 1, (f : Int), (n : Int)) (ar x) = false) (r' g : Nat) : fillG (Gl L) r f n ((f : Int), o) r' g = Gl (L ++ [((r : Int) + 1, (f : Int), (n : Int), o)]) r' g := by
  show _ = cel _ _ _
  rw [cel_snoc hm]
  unfold fillG
  by_cases h : r' = r ∧ f ≤ g ∧ g < f + n
  · rw [if_pos h, if_pos (cov_iff.2 ⟨by show (r : Int) + 1 = r' + 1; omega, by show (f : Int) ≤ g; omega, by show (g : Int) < f + n; omega⟩)]
  · rw [if_neg h, if_neg (fun hc => h ?_)]
    · rfl
    · obtain ⟨e1, e2, e3⟩ := cov_iff.1 hc
      have e1 : (r : Int) + 1 = r' + 1 := e1
      have e2 : (f : Int) ≤ g := e2
      have e3 : (g : Int) < f + n := e3
      omega
def keepF (p f : Int) (s : Sp) : Bool := !beg p f s
def setP (p f o : Int) (s : Sp) : Sp := if beg p f s = true then (s.1, s.2.1, s.2.2.1, o) else s
theorem ar_setP (p f o : Int) (s : Sp) : ar (setP p f o s) = ar s := by unfold setP; split <;> rfl
theorem map_setP (L : List Sp) (p f o : Int) : (L.map (setP p f o)).map ar = L.map ar := by
  rw [List.map_map]; exact List.map_congr_left fun s _ => ar_setP p f o s
theorem GS.setP {L : List Sp} (h : GS L) (p f : Int) {o : Int} (ho : o = 1 ∨ o = 3) : GS (L.map (Ytlkcpjefgelcoaa.setP p f o)) :=
  ⟨by rw [map_setP]; exact h.good, fun s hs => by
    obtain ⟨x, hx, rfl⟩ := List.mem_map.1 hs
    unfold Ytlkcpjefgelcoaa.setP
    split
    · exact ho
    · exact h.prot x hx⟩
theorem filter_ar (L : List Sp) (f : Ar → Bool) : (L.filter fun s => f (ar s)).map ar = (L.map ar).filter f := by
  rw [List.filter_map]; rfl
theorem GS.filter {L : List Sp} (h : GS L) (f : Ar → Bool) : GS (L.filter fun s => f (ar s)) :=
  ⟨by rw [filter_ar]; exact h.good.filter f, fun s hs => h.prot s (List.mem_filter.1 hs).1⟩
/-- Pages of a span that is set otherwise. -/
theorem GS.fill {L : List Sp} (h : GS L) {s : Sp} (hs : s ∈ L) (r f n : Nat) (o : Int) (h1 : s.1 = (r : Int) + 1) (h2 : s.2.1 = f) (h3 : s.2.2.1 = n) (ho : o = 1 ∨ o = 3) (r' g : Nat) : fillG (Gl L) r f n ((f : Int), o) r' g = Gl (L.map (Ytlkcpjefgelcoaa.setP s.1 s.2.1 o)) r' g := by
  have hb : beg s.1 s.2.1 s = true := beg_self s
  have hS := h.setP s.1 s.2.1 ho
  unfold fillG
  by_cases hc : r' = r ∧ f ≤ g ∧ g < f + n
  · rw [if_pos hc]
    have hm : Ytlkcpjefgelcoaa.setP s.1 s.2.1 o s ∈ L.map (Ytlkcpjefgelcoaa.setP s.1 s.2.1 o) := List.mem_map_of_mem hs
    have hcv : cov ((r' : Int) + 1) g (Ytlkcpjefgelcoaa.setP s.1 s.2.1 o s) = true := by
      show withF _ _ (ar _) = true
      rw [ar_setP]
      exact withF_iff.2 ⟨by show s.1 = _; omega, by show s.2.1 ≤ _; omega, by show _ < s.2.1 + s.2.2.1; omega⟩
    show _ = Ytlkcpjefgelcoaa.cel _ _ _
    rw [hS.cel hm hcv]
    unfold Ytlkcpjefgelcoaa.setP
    rw [if_pos hb, h2]
  · rw [if_neg hc]
    show Ytlkcpjefgelcoaa.cel _ _ _ = Ytlkcpjefgelcoaa.cel _ _ _
    by_cases hz : Ytlkcpjefgelcoaa.cel L ((r' : Int) + 1) g = (0, 0)
    · rw [hz, eq_comm, hS.celz]
      intro x hx
      obtain ⟨y, hy, rfl⟩ := List.mem_map.1 hx
      show withF _ _ (ar _) = false
      rw [ar_setP]
      exact h.celz.1 hz y hy
    · obtain ⟨y, hy, hcy⟩ := cel_some hz
      have hcy' : cov ((r' : Int) + 1) g (Ytlkcpjefgelcoaa.setP s.1 s.2.1 o y) = true := by
        show withF _ _ (ar _) = true
        rw [ar_setP]; exact hcy
      rw [h.cel hy hcy, hS.cel (List.mem_map_of_mem hy) hcy']
      have hne : beg s.1 s.2.1 y = false := by
        cases hby : beg s.1 s.2.1 y
        · rfl
        · exfalso
          have := h.one hs hy (h.begs hs hb) (h.begs hy hby)
          subst this
          obtain ⟨e1, e2, e3⟩ := cov_iff.1 hcy
          omega
      unfold Ytlkcpjefgelcoaa.setP
      rw [if_neg (by rw [hne]; simp)]
/-- Pages of a span that is gone. -/
theorem GS.clear {L : List Sp} (h : GS L) {s : Sp} (hs : s ∈ L) (r f n : Nat) (h1 : s.1 = (r : Int) + 1) (h2 : s.2.1 = f) (h3 : s.2.2.1 = n) (r' g : Nat) : fillG (Gl L) r f n (0, 0) r' g = Gl (L.filter (keepF s.1 s.2.1)) r' g := by
  have hb : beg s.1 s.2.1 s = true := beg_self s
  have hF : GS (L.filter (keepF s.1 s.2.1)) := h.filter fun a => !fromF s.1 s.2.1 a
  unfold fillG
  by_cases hc : r' = r ∧ f ≤ g ∧ g < f + n
  · rw [if_pos hc]
    show _ = Ytlkcpjefgelcoaa.cel _ _ _
    rw [eq_comm, hF.celz]
    intro x hx
    obtain ⟨hx1, hx2⟩ := List.mem_filter.1 hx
    cases hcx : cov ((r' : Int) + 1) g x
    · rfl
    · exfalso
      have := h.one hs hx1 (cov_iff.2 ⟨by omega, by omega, by omega⟩) hcx
      subst this
      simp [keepF, hb] at hx2
  · rw [if_neg hc]
    show Ytlkcpjefgelcoaa.cel _ _ _ = Ytlkcpjefgelcoaa.cel _ _ _
    by_cases hz : Ytlkcpjefgelcoaa.cel L ((r' : Int) + 1) g = (0, 0)
    · rw [hz, eq_comm, hF.celz]
      intro x hx
      exact h.celz.1 hz x (List.mem_filter.1 hx).1
    · obtain ⟨y, hy, hcy⟩ := cel_some hz
      have hne : beg s.1 s.2.1 y = false := by
        cases hby : beg s.1 s.2.1 y
        · rfl
        · exfalso
          have := h.one hs hy (h.begs hs hb) (h.begs hy hby)
          subst this
          obtain ⟨e1, e2, e3⟩ := cov_iff.1 hcy
          omega
      rw [h.cel hy hcy, hF.cel (List.mem_filter.2 ⟨hy, by simp [keepF, hne]⟩) hcy]
/-- The span that begins at a page, among those of its process. -/
theorem GS.split {L : List Sp} (h : GS L) {p f : Int} {s : Sp} (hf : L.find? (beg p f) = Option.some s) : ∃ X Y, Ytlkcpjefgelcoaa.ofL L p = X ++ s :: Y ∧ ∀ x ∈ X, x.2.1 ≠ f := by
  have hs := List.mem_of_find?_eq_some hf
  obtain ⟨e1, e2⟩ := beg_iff.1 (List.find?_some hf)
  have hi := h.isA hs
  have hm : s ∈ Ytlkcpjefgelcoaa.ofL L p := by
    have := h.mem_upL hs (k := 16) (by omega)
    rw [e1] at this
    exact this
  have key : ∀ M : List Sp, (∀ x ∈ M, x ∈ L ∧ x.1 = p) → s ∈ M → ∃ X Y, M = X ++ s :: Y ∧ ∀ x ∈ X, x.2.1 ≠ f := by
    intro M
    induction M with
    | nil => intro _ h; cases h
    | cons y M ih =>
      intro hM hsM
      by_cases hy : y.2.1 = f
      · obtain ⟨m1, m2⟩ := hM y (by simp)
        have hby : beg p f y = true := beg_iff.2 ⟨m2, hy⟩
        have := h.one hs m1 (h.begs hs (beg_iff.2 ⟨e1, e2⟩)) (h.begs m1 hby)
        subst this
        exact ⟨[], M, rfl, fun x hx => by cases hx⟩
      · rcases List.mem_cons.1 hsM with e | e
        · exact absurd (e ▸ e2) hy
        · obtain ⟨X, Y, hXY, hX⟩ := ih (fun x hx => hM x (List.mem_cons_of_mem _ hx)) e
          refine ⟨y :: X, Y, by rw [hXY]; rfl, fun x hx => ?_⟩
          rcases List.mem_cons.1 hx with rfl | hx
          · exact hy
          · exact hX x hx
  exact key _ (fun x hx => ⟨(upL_mem hx).1, (upL_mem hx).2.1⟩) hm
theorem of_none {L : List Sp} {p f : Int} (hf : L.find? (beg p f) = none) : ∀ x ∈ ofL L p, x.2.1 ≠ f := fun x hx e => by
  obtain ⟨m1, m2, _⟩ := upL_mem hx
  exact List.find?_eq_none.1 hf x m1 (beg_iff.2 ⟨m2, e⟩)
theorem of_out {L : List Sp} (h : GS L) {p : Int} (hp : ¬(1 ≤ p ∧ p ≤ 6)) : ofL L p = [] := by
  rcases hh : ofL L p with _ | ⟨x, l⟩
  · rfl
  · exfalso
    obtain ⟨m1, m2, _⟩ := upL_mem (L := L) (p := p) (k := 16) (s := x) (by show x ∈ ofL L p; rw [hh]; simp)
    have := h.isA m1
    omega
end Go.Proofs.Ytlkcpjefgelcoaa
