/- Plain lists of spans: Fork, Drop; no statement is proved in this text. -/
import Derived.Test.YtlkcpjefgelcoaaQv
namespace Go.Proofs.Ytlkcpjefgelcoaa

def pidF (p : Int) (s : Sp) : Bool := s.1 == p
def mvS (c : Int) (s : Sp) : Sp := (c, s.2)
def forkS (L : List Sp) (p c : Int) : List Sp := L ++ (L.filter (pidF p)).map (mvS c)
def dropS (L : List Sp) (p : Int) : List Sp := L.filter fun s => !pidF p s
theorem ar_mvS (c : Int) (s : Sp) : ar (mvS c s) = mv c (ar s) := rfl
theorem forkS_ar (L : List Sp) (p c : Int) : (forkS L p c).map ar = forkL (L.map ar) p c := by
  unfold forkS forkL
  rw [List.map_append, List.map_map, ← filter_ar L (ofF p), List.map_map]
  rfl
theorem GS.fork {L : List Sp} (h : GS L) {p c : Int} (h1 : 1 ≤ c) (h6 : c ≤ 6) (hc : cntL (L.map ar) c = 0) : GS (forkS L p c) :=
  ⟨by rw [forkS_ar]; exact h.good.fork h1 h6 hc, fun s hs => by
    rcases List.mem_append.1 hs with hs | hs
    · exact h.prot s hs
    · obtain ⟨x, hx, rfl⟩ := List.mem_map.1 hs
      exact h.prot x (List.mem_filter.1 hx).1⟩
theorem GS.drop {L : List Sp} (h : GS L) (p : Int) : GS (dropS L p) := h.filter fun a => !ofF p a
theorem none_of {L : List Sp} {c : Int} (hc : cntL (L.map ar) c = 0) : ∀ s ∈ L, s.1 ≠ c := fun s hs => cnt_zero hc (ar s) (List.mem_map_of_mem hs)
/-- A process's row is empty just if it has no span. -/
theorem GS.empty {L : List Sp} (h : GS L) (c : Int) : cntL (L.map ar) c = 0 ↔ ∀ g : Nat, g < 16 → Ytlkcpjefgelcoaa.cel L c g = (0, 0) := by
  constructor
  · intro hc g _
    rw [h.celz]
    intro s hs
    have := none_of hc s hs
    cases hv : cov c g s
    · rfl
    · exact absurd (cov_iff.1 hv).1 this
  · intro hz
    rcases Nat.eq_zero_or_pos (cntL (L.map ar) c) with e | e
    · exact e
    · exfalso
      obtain ⟨a, ha⟩ := List.exists_mem_of_length_pos e
      obtain ⟨ha1, ha2⟩ := List.mem_filter.1 ha
      obtain ⟨s, hs, rfl⟩ := List.mem_map.1 ha1
      have hi := h.isA hs
      have := hz s.2.1.toNat (by omega)
      rw [h.celz] at this
      have h2 := this s hs
      rw [Bool.eq_false_iff, ne_eq, cov_iff] at h2
      exact h2 ⟨ofF_iff.1 ha2, by omega, by omega⟩
/-- The pages behind a Fork. -/
theorem GS.forked {L : List Sp} (h : GS L) {p c : Int} (h1 : 1 ≤ c) (h6 : c ≤ 6) (hc : cntL (L.map ar) c = 0) (q g : Int) : Ytlkcpjefgelcoaa.cel (forkS L p c) q g = if q = c then Ytlkcpjefgelcoaa.cel L p g else Ytlkcpjefgelcoaa.cel L q g := by
  have hF := h.fork (p := p) h1 h6 hc
  by_cases hq : q = c
  · subst hq
    rw [if_pos rfl]
    by_cases hz : Ytlkcpjefgelcoaa.cel L p g = (0, 0)
    · rw [hz, hF.celz]
      intro s hs
      rcases List.mem_append.1 hs with hs | hs
      · cases hv : cov q g s
        · rfl
        · exact absurd (cov_iff.1 hv).1 (none_of hc s hs)
      · obtain ⟨x, hx, rfl⟩ := List.mem_map.1 hs
        obtain ⟨hx1, hx2⟩ := List.mem_filter.1 hx
        have := h.celz.1 hz x hx1
        cases hv : cov q g (mvS q x)
        · rfl
        · obtain ⟨_, e2, e3⟩ := cov_iff.1 hv
          have : cov p g x = true := cov_iff.2 ⟨by simpa [pidF] using hx2, e2, e3⟩
          rw [h.celz.1 hz x hx1] at this
          cases this
    · obtain ⟨s, hs, hv⟩ := cel_some hz
      obtain ⟨e1, e2, e3⟩ := cov_iff.1 hv
      rw [h.cel hs hv, hF.cel (s := mvS q s) (List.mem_append_right _ (List.mem_map_of_mem (List.mem_filter.2 ⟨hs, by simpa [pidF] using e1⟩))) (show cov q g (mvS q s) = true from cov_iff.2 ⟨rfl, e2, e3⟩)]
      rfl
  · rw [if_neg hq]
    by_cases hz : Ytlkcpjefgelcoaa.cel L q g = (0, 0)
    · rw [hz, hF.celz]
      intro s hs
      rcases List.mem_append.1 hs with hs | hs
      · exact h.celz.1 hz s hs
      · obtain ⟨x, _, rfl⟩ := List.mem_map.1 hs
        cases hv : cov q g (mvS c x)
        · rfl
        · exact absurd (cov_iff.1 hv).1.symm hq
    · obtain ⟨s, hs, hv⟩ := cel_some hz
      rw [h.cel hs hv, hF.cel (List.mem_append_left _ hs) hv]
/-- The pages behind a Drop. -/
theorem up_lt (L : List Sp) (p : Int) : ∀ k : Nat, (upL L p k).Pairwise fun a b => a.2.1 < b.2.1
  | 0 => .nil
  | k + 1 => by
    rw [upL_succ, List.pairwise_append]
    refine ⟨up_lt L p k, ?_, fun a ha b hb => ?_⟩
    · cases L.find? (beg p k) <;> simp
    · have h1 := (upL_mem ha).2.2
      cases hf : L.find? (beg p k) with
      | none => rw [hf] at hb; cases hb
      | some s =>
        rw [hf] at hb
        simp at hb
        subst hb
        have := (beg_iff.1 (List.find?_some hf)).2
        omega
def cutK (L M : List Sp) : List Sp := L.filter fun x => M.all fun s => keepF s.1 s.2.1 x
theorem cutK_nil (L : List Sp) : cutK L [] = L := by simp [cutK]
theorem cutK_snoc (L M : List Sp) (s : Sp) : cutK L (M ++ [s]) = (cutK L M).filter (keepF s.1 s.2.1) := by
  unfold cutK
  rw [List.filter_filter]
  congr 1
  funext x
  simp [List.all_append, Bool.and_comm]
theorem GS.cutK {L : List Sp} (h : GS L) (M : List Sp) : GS (Ytlkcpjefgelcoaa.cutK L M) := by
  have : Ytlkcpjefgelcoaa.cutK L M = L.filter fun s => (fun a : Ar => M.all fun x => !fromF x.1 x.2.1 a) (ar s) := rfl
  rw [this]
  exact h.filter (fun a : Ar => M.all fun x => !fromF x.1 x.2.1 a)
theorem cut_mem {L : List Sp} {p : Int} {X Y : List Sp} {s : Sp} (hM : Ytlkcpjefgelcoaa.ofL L p = X ++ s :: Y) : s ∈ Ytlkcpjefgelcoaa.cutK L X := by
  have hs : s ∈ Ytlkcpjefgelcoaa.ofL L p := by rw [hM]; simp
  obtain ⟨m1, m2, _⟩ := upL_mem hs
  refine List.mem_filter.2 ⟨m1, List.all_eq_true.2 fun x hx => ?_⟩
  have hp := up_lt L p 16
  rw [show upL L p 16 = X ++ s :: Y from hM, List.pairwise_append] at hp
  have := hp.2.2 x hx s (by simp)
  cases hb : beg x.1 x.2.1 s
  · simp [keepF, hb]
  · have := (beg_iff.1 hb).2
    omega
theorem GS.cut_all {L : List Sp} (h : GS L) (p : Int) : Ytlkcpjefgelcoaa.cutK L (Ytlkcpjefgelcoaa.ofL L p) = dropS L p := by
  unfold Ytlkcpjefgelcoaa.cutK dropS
  refine List.filter_congr fun x hx => ?_
  rw [Bool.eq_iff_iff, List.all_eq_true]
  have hi := h.isA hx
  constructor
  · intro hall
    cases hp : pidF p x
    · rfl
    · exfalso
      have e : x.1 = p := by simpa [pidF] using hp
      have hm : x ∈ Ytlkcpjefgelcoaa.ofL L p := by
        have := h.mem_upL hx (k := 16) (by omega)
        rw [e] at this
        exact this
      have := hall x hm
      simp [keepF, beg_self x] at this
  · intro hp s hs
    obtain ⟨_, m2, _⟩ := upL_mem hs
    cases hb : beg s.1 s.2.1 x
    · simp [keepF, hb]
    · have := (beg_iff.1 hb).1
      simp [pidF] at hp
      omega
end Go.Proofs.Ytlkcpjefgelcoaa
