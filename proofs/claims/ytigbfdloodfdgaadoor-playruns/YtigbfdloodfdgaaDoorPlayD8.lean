/- play: what is done at each kind of act; no statement is proved in this text. -/
import Derived.Test.YtigbfdloodfdgaaDoorPlayD7
namespace Go.Proofs.YtigbfdloodfdgaaDoor
open Go.ChangeShapes Go.WideShapes Go.ChangeAt Go.RowKit

/-- A run, where its block is. -/
structure RnAt (w : World) (base R : Nat) (s : Rn) : Prop where
  ex : ∃ va vc, RunAt w R s.C s.M va vc ∧ ASl w base R va s.A ∧ w.ownsRow base 51 4 vc s.K.length (clC s.K)
theorem DeedsAt.fr {b R base : Nat} {w w' : World} (h : DeedsAt b R w) (hf : Fr base R w w') (hb : b + 7 ≤ base) (hR : R < b) : DeedsAt b R w' :=
  ⟨(hf.cell (p := ⟨b, 0, none⟩) (by show b < base; omega) (by show b ≠ R; omega)).trans h.q, (hf.cell (p := ⟨b + 2, 0, none⟩) (by show b + 2 < base; omega) (by show b + 2 ≠ R; omega)).trans h.h2,
   (hf.cell (p := ⟨b + 3, 0, none⟩) (by show b + 3 < base; omega) (by show b + 3 ≠ R; omega)).trans h.h1, (hf.cell (p := ⟨b + 4, 0, none⟩) (by show b + 4 < base; omega) (by show b + 4 ≠ R; omega)).trans h.d3,
   (hf.cell (p := ⟨b + 5, 0, none⟩) (by show b + 5 < base; omega) (by show b + 5 ≠ R; omega)).trans h.d4, (hf.cell (p := ⟨b + 6, 0, none⟩) (by show b + 6 < base; omega) (by show b + 6 ≠ R; omega)).trans h.h0⟩
theorem RnAt.frk {w w' : World} {base R : Nat} {s : Rn} (h : RnAt w base R s) (hf : Below w.heap.size w w') (hR : R < base) (hb : base ≤ w.heap.size) : RnAt w' base R s := by
  obtain ⟨va, vc, h1, h2, h3⟩ := h.ex
  exact ⟨va, vc, h1.below hf, h2.fr (Fr.of_below (hf.mono hb)), own_fr h3 (Fr.of_below hf) hR⟩
/-- What is behind a deed. -/
def Did (base R : Nat) (D : List Nat) (x : Ac) (s : Rn) (w : World) (e : Ending) (w' : World) : Prop :=
  e = .returned (i64 ((doP D x s).1 : Nat)) ∧ RnAt w' base R (doP D x s).2 ∧ Fr base R w w' ∧ ∀ k cs t fz, k ≠ R → w.heap[k]? = some (.cells cs t fz) → t ≠ 51 → w'.heap[k]? = w.heap[k]?
theorem Fr.far {w w' : World} {R : Nat} (h : Fr w.heap.size R w w') : ∀ k cs t fz, k ≠ R → w.heap[k]? = some (.cells cs t fz) → t ≠ 51 → w'.heap[k]? = w.heap[k]? := fun k _ _ _ hne hk _ => h.block k (Array.getElem?_eq_some_iff.1 hk).1 hne
theorem FrO.far {w w' : World} {base R n : Nat} {v : Value} {xs : List Value} (h : FrO v.ownBlock R w w') (ho : w.ownsRow base 51 4 v n xs) : ∀ k cs t fz, k ≠ R → w.heap[k]? = some (.cells cs t fz) → t ≠ 51 → w'.heap[k]? = w.heap[k]? := fun k cs t fz hne hk ht => by
  refine h k (Array.getElem?_eq_some_iff.1 hk).1 hne fun he => ?_
  rcases ho.2 with ⟨rfl, _⟩ | ⟨g, cap, cur, rfl, _, hg, _⟩
  · cases he
  · cases he
    rw [hk] at hg
    cases hg
    exact ht rfl
/-- What is ahead of one. -/
structure Ready (w : World) (base b R : Nat) (D : List Nat) (s : Rn) : Prop where
  rg : Rg D
  d : DeedsAt b R w
  hb : b + 7 ≤ base
  hR : R < b
  hw : base ≤ w.heap.size
  rn : RnAt w base R s
theorem did_set {w : World} {base b R : Nat} {D : List Nat} {s : Rn} (h : Ready w base b R D s) (x : Ac) (how : Nat) (hh : Nat) (hc : w.cell? ⟨hh, 0, none⟩ = some (i64 (how : Nat))) (hne : hh ≠ R) (hd : doP D x s = (how, { s with C := D })) :
    Calls Tryd.prog 20 #[cpV D, acV x, .pointer (some ⟨b, 0, none⟩), .pointer (some ⟨hh, 0, none⟩)] w (Did base R D x s w) := by
  obtain ⟨va, vc, h1, h2, h3⟩ := h.rn.ex
  have hR := h.hR
  have hb := h.hb
  refine (set_ok w R b hh how s.C D s.M va vc x h.rg h1 h.d.q hc hne).mono ?_
  rintro e w' ⟨rfl, h4, h5⟩
  unfold Did
  rw [hd]
  exact ⟨rfl, ⟨va, vc, h4, h2.fr (h5.mono h.hw), own_fr h3 h5 (by omega)⟩, h5.mono h.hw, h5.far⟩
theorem deed0 {w : World} {base b R : Nat} {D : List Nat} {s : Rn} (h : Ready w base b R D s) (x : Ac) (hk : x.k = 0) : Calls Tryd.prog 20 #[cpV D, acV x, .pointer (some ⟨b, 0, none⟩), .pointer (some ⟨b + 2, 0, none⟩)] w (Did base R D x s w) :=
  did_set h x 2 (b + 2) h.d.h2 (by have := h.hR; omega) (by unfold doP; rw [if_pos hk])
theorem deed1 {w : World} {base b R : Nat} {D : List Nat} {s : Rn} (h : Ready w base b R D s) (x : Ac) (hk : x.k = 1) : Calls Tryd.prog 20 #[cpV D, acV x, .pointer (some ⟨b, 0, none⟩), .pointer (some ⟨b + 3, 0, none⟩)] w (Did base R D x s w) :=
  did_set h x 1 (b + 3) h.d.h1 (by have := h.hR; omega) (by unfold doP; rw [if_neg (by omega), if_pos hk])
theorem deed5 {w : World} {base b R : Nat} {D : List Nat} {s : Rn} (h : Ready w base b R D s) (x : Ac) (hk : x.k = 5) : Calls Tryd.prog 20 #[cpV D, acV x, .pointer (some ⟨b, 0, none⟩), .pointer (some ⟨b + 6, 0, none⟩)] w (Did base R D x s w) :=
  did_set h x 0 (b + 6) h.d.h0 (by have := h.hR; omega) (by unfold doP; rw [if_neg (by omega), if_neg (by omega), if_neg (by omega), if_neg (by omega), if_neg (by omega)])
theorem deed2 {w : World} {base b R : Nat} {D : List Nat} {s : Rn} (h : Ready w base b R D s) (x : Ac) (hk : x.k = 2) (hl : s.K.length < 5000) : Calls Tryd.prog 28 #[cpV D, acV x, .pointer (some ⟨b, 0, none⟩)] w (Did base R D x s w) := by
  obtain ⟨va, vc, h1, h2, h3⟩ := h.rn.ex
  have hR := h.hR
  have hb := h.hb
  obtain ⟨k, n, r, ad, sz, v⟩ := x
  refine (call_ok w R b base s.C D s.M va vc s.A s.K n r v ad sz k _ _ _ _ rfl rfl rfl rfl h.rg h1 h.d.q (by omega) (by omega) (by omega) h.hw h2 h3 hl).mono ?_
  rintro e w' ⟨rfl, va', vc', h4, h5, h6, h7, h8⟩
  unfold Did doP
  simp only at hk
  rw [if_neg (by simp only; omega), if_neg (by simp only; omega), if_pos (by exact hk)]
  exact ⟨rfl, ⟨va', vc', h4, h5, by rw [List.length_append]; exact h6⟩, h7, h8.far h3⟩
theorem deed3 {w : World} {base b R : Nat} {D : List Nat} {s : Rn} (h : Ready w base b R D s) (x : Ac) (hk : x.k = 3) (hf : Fit x) : Calls Tryd.prog 22 #[cpV D, acV x, .pointer (some ⟨b + 4, 0, none⟩)] w (Did base R D x s w) := by
  obtain ⟨va, vc, h1, h2, h3⟩ := h.rn.ex
  have hR := h.hR
  have hb := h.hb
  obtain ⟨⟨ha0, ha1⟩, hs⟩ := hf.ac (Or.inl hk)
  obtain ⟨hr0, hr1⟩ := hf.rd hk
  unfold Did doP
  rw [if_neg (by omega), if_neg (by omega), if_neg (by omega), if_pos hk]
  by_cases ho : outB x = true
  · rw [if_pos ho]
    refine (inMem_out w (b + 4) D x ho hs).mono ?_
    rintro e w' ⟨rfl, h4⟩
    exact ⟨rfl, h.rn.frk h4 (by omega) h.hw, Fr.of_below (h4.mono h.hw), (Fr.of_below h4).far⟩
  · rw [if_neg ho]
    have ho' : outB x = false := by simpa using ho
    have hin : x.ad + x.s ≤ 256 := by have := of_decide_eq_false ho'; omega
    refine inMem_23 w (b + 4) b D h.rg x ho' hs h.d.d3 0 _ (fun V hV => ?_)
    obtain ⟨k, n, r, ad, sz, v⟩ := x
    simp only at *
    obtain ⟨r, rfl⟩ := Int.eq_ofNat_of_zero_le hr0
    obtain ⟨ad, rfl⟩ := Int.eq_ofNat_of_zero_le ha0
    obtain ⟨sz, rfl⟩ := Int.eq_ofNat_of_zero_le (show 0 ≤ sz by omega)
    refine (read_ok V R b s.C D s.M va vc n v r ad sz k (by omega) (by omega) (by omega) h.rg (h1.below hV) ((hV.cell (p := ⟨b, 0, none⟩) (lt_of_cell h.d.q)).trans h.d.q) (by omega)).mono ?_
    rintro e w' ⟨rfl, h4, h5⟩
    have h6 : Fr w.heap.size R w w' := (Fr.of_below hV).trans (h5.mono hV.size)
    exact ⟨rfl, ⟨va, vc, h4, h2.fr (h6.mono h.hw), own_fr h3 h6 (by omega)⟩, h6.mono h.hw, h6.far⟩
theorem deed4 {w : World} {base b R : Nat} {D : List Nat} {s : Rn} (h : Ready w base b R D s) (x : Ac) (hk : x.k = 4) (hf : Fit x) : Calls Tryd.prog 22 #[cpV D, acV x, .pointer (some ⟨b + 5, 0, none⟩)] w (Did base R D x s w) := by
  obtain ⟨va, vc, h1, h2, h3⟩ := h.rn.ex
  have hR := h.hR
  have hb := h.hb
  obtain ⟨⟨ha0, ha1⟩, hs⟩ := hf.ac (Or.inr hk)
  obtain ⟨hv0, hv1, _⟩ := hf.vl hk
  unfold Did doP
  rw [if_neg (by omega), if_neg (by omega), if_neg (by omega), if_neg (by omega), if_pos hk]
  by_cases ho : outB x = true
  · rw [if_pos ho]
    refine (inMem_out w (b + 5) D x ho hs).mono ?_
    rintro e w' ⟨rfl, h4⟩
    exact ⟨rfl, h.rn.frk h4 (by omega) h.hw, Fr.of_below (h4.mono h.hw), (Fr.of_below h4).far⟩
  · rw [if_neg ho]
    have ho' : outB x = false := by simpa using ho
    have hin : x.ad + x.s ≤ 256 := by have := of_decide_eq_false ho'; omega
    refine inMem_26 w (b + 5) b D h.rg x ho' hs h.d.d4 0 _ (fun V hV => ?_)
    obtain ⟨k, n, r, ad, sz, v⟩ := x
    simp only at *
    obtain ⟨v, rfl⟩ := Int.eq_ofNat_of_zero_le hv0
    obtain ⟨ad, rfl⟩ := Int.eq_ofNat_of_zero_le ha0
    obtain ⟨sz, rfl⟩ := Int.eq_ofNat_of_zero_le (show 0 ≤ sz by omega)
    refine (write_ok V R b s.C D s.M va vc n r ad sz v k (by omega) (by omega) (by omega) h.rg (h1.below hV) ((hV.cell (p := ⟨b, 0, none⟩) (lt_of_cell h.d.q)).trans h.d.q) (by omega)).mono ?_
    rintro e w' ⟨rfl, h4, h5⟩
    have h6 : Fr w.heap.size R w w' := (Fr.of_below hV).trans (h5.mono hV.size)
    exact ⟨rfl, ⟨va, vc, h4, h2.fr (h6.mono h.hw), own_fr h3 h6 (by omega)⟩, h6.mono h.hw, h6.far⟩
/-- Acts of steps fit. -/
theorem fit_act {i : In} (h : isI i = true) {a b : Nat} (ha : a < 65536) (hb : b < 65536) : Fit (actF i a b) := by
  obtain ⟨_, h2, _, _, _, _, _⟩ := isI_out h
  unfold actF
  repeat' split
  all_goals exact ⟨by simp <;> omega, by simp <;> omega, by simp <;> omega, by simp <;> omega, by simp <;> omega⟩
theorem fit_step {C : List Nat} (hC : Rg C) (l : List UInt8) : Fit (stA C l) := by
  unfold stA
  split
  · rename_i he
    obtain ⟨hI, _, _, _⟩ := at_fine he
    exact fit_act hI (hC.get _) (hC.get _)
  · exact ⟨by simp [zA], by simp [zA], by simp [zA], by simp [zA], by simp [zA]⟩
end Go.Proofs.YtigbfdloodfdgaaDoor
