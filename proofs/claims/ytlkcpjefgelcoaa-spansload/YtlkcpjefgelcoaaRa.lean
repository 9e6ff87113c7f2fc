/- The document: a table in memory, At, May, All; no statement is proved in this text. -/
import Derived.Test.YtlkcpjefgelcoaaTy
import Derived.Test.YtlkcpjefgelcoaaArgs
namespace Go.Proofs.Ytlkcpjefgelcoaa
open Go.ChangeShapes Go.WideShapes Go.ChangeAt Go.RowKit Go.Deep
attribute [local go_sem ↓] Go.wp_at_zero Go.wp_at_succ

/-- The document's table in memory. -/
def Rt (w : World) (base r : Nat) (L : List Sp) : Prop := base ≤ r ∧ ∃ ao cap, w.heap[r]? = some (.cells #[.slice ao L.length cap] 29) ∧ w.ownsRow base 58 4 (.slice ao L.length cap) L.length (scn L)
theorem Rt.lt {w : World} {base r : Nat} {L : List Sp} (h : Rt w base r L) : r < w.heap.size := by
  obtain ⟨_, ao, cap, h1, _⟩ := h
  exact blk_lt h1
theorem Rt.lo {w : World} {base r : Nat} {L : List Sp} (h : Rt w base r L) : base ≤ r := h.1
theorem Rt.lob {w : World} {base r : Nat} {L : List Sp} (h : Rt w base r L) : base ≤ w.heap.size := Nat.le_of_lt (Nat.lt_of_le_of_lt h.lo h.lt)
theorem Rt.below {w w' : World} {base r : Nat} {L : List Sp} (h : Rt w base r L) (hb : Below w.heap.size w w') : Rt w' base r L := by
  obtain ⟨h0, ao, cap, h1, h2⟩ := h
  exact ⟨h0, ao, cap, blk_below h1 hb, own_keep1 h2 fun k hk => hb.block k (h2.lt k hk).2⟩
theorem Rt.fr {w w' : World} {base base' r : Nat} {L : List Sp} {ts : List TypeId} (h : Rt w base r L) (hf : Fr base' ts w w') (h29 : ts.contains 29 = false) (h58 : ts.contains 58 = false) : Rt w' base r L := by
  obtain ⟨h0, ao, cap, h1, h2⟩ := h
  exact ⟨h0, ao, cap, hf.kept _ _ h1 (by simp only [keeps, h29]; rfl), own_keep h2 fun k _ hk => hf.kept k _ hk (by simp only [keeps, h58]; rfl)⟩
theorem rt_new (w : World) (base : Nat) (h : base ≤ w.heap.size) : Rt (w.alloc (.cells #[.slice none 0 0] 29)) base w.heap.size [] := ⟨h, none, 0, heap_last w _, World.ownsRow_nil _ _ _ _⟩
theorem Rt.cap {w : World} {base : Nat} {ao : Option Addr} {cap : Nat} {L : List Sp} (h : w.ownsRow base 58 4 (.slice ao L.length cap) L.length (scn L)) : L.length ≤ cap := own_cap4 h
theorem zero29t (w : World) : (zeroValue 29).run Try.prog w = .ok (.agg #[.slice none 0 0]) w := by kernel_rfl
set_option maxRecDepth 100000 in
set_option maxHeartbeats 1600000 in
theorem rat_none {w : World} {base r : Nat} {L : List Sp} (p f : Int) (h : Rt w base r L) (hl : L.length ≤ 1000) (hf : L.find? (beg p f) = none) : Calls Try.prog 31 #[pq r, i64 p, i64 f] w fun e w' => e = .returned (i64 (-1)) ∧ Below w.heap.size w w' := by
  have HF : Hid (∀ s ∈ L, beg p f s = false) := fun s hs => by simpa using List.find?_eq_none.1 hf s hs
  obtain ⟨hlo, ao, cap, hbk, hown⟩ := h
  have hcap := own_cap4 hown
  have HRd : Hid (Rd4 w ao L) := Rd4.own hown
  have d0 : w.cell? ⟨r, 0, none⟩ = some (.slice ao L.length cap) := blk_cell hbk 0
  have hrl := blk_lt hbk
  obtain ⟨N, hN⟩ : ∃ N, N = L.length := ⟨_, rfl⟩
  have HN : Hid (N = L.length) := hN
  rw [← hN] at d0 hl hcap
  clear hbk hown hN
  clear hf
  go_enter Try.func31, Try.ntmps31
  go_wp2_with fail
  go_loopw [14] (fun i wr => ∃ k : Nat, k ≤ N ∧ i = i64 k ∧ Hid (Below w.heap.size w wr)) (fun i _ => N - (intOf i).toNat)
  case atStart => exact ⟨0, by omega, rfl, Below.refl _ _⟩
  case round =>
    obtain ⟨k, hk, rfl, HB⟩ := hrel
    by_cases hlt : k < N
    · have hkI : (k : Int) < N := by omega
      obtain ⟨s, hs⟩ : ∃ s, L[k]? = some s := ⟨_, List.getElem?_eq_getElem (by rw [← HN.out]; exact hlt)⟩
      obtain ⟨g, o, rfl, hgl, c0, c1, c2, c3⟩ := HRd.out.below HB.out k s hs
      have HB2 : Hid (Below w.heap.size w (wr.alloc (sO s 58))) := HB.out.alloc HB.out.size _
      have hb := HF.out s (List.mem_of_getElem? hs)
      clear hs
      by_cases h1 : s.1 = p
      · have q1 : (s.1 == p) = true := beq_iff_eq.2 h1
        have q2 : (s.2.1 == f) = false := beq_false_of_ne fun e => by rw [beg_iff.2 ⟨h1, e⟩] at hb; cases hb
        clear h1 hb
        go_wp2_with fail
        exact ⟨⟨k + 1, by omega, by go_num, HB2⟩, by simp [intOf]; omega⟩
      · have q1 : (s.1 == p) = false := beq_false_of_ne h1
        clear h1 hb
        go_wp2_with fail
        exact ⟨⟨k + 1, by omega, by go_num, HB2⟩, by simp [intOf]; omega⟩
    · go_wp2_with fail
      go_ret
      exact ⟨rfl, HB.out⟩
theorem find_at {L : List Sp} {q : Sp → Bool} {s : Sp} (hf : L.find? q = some s) : ∃ K : Nat, L[K]? = some s ∧ q s = true ∧ ∀ j x, j < K → L[j]? = some x → q x = false := by
  induction L with
  | nil => simp at hf
  | cons y L ih =>
    rw [List.find?_cons] at hf
    cases hy : q y
    · rw [hy] at hf
      obtain ⟨K, h1, h2, h3⟩ := ih hf
      refine ⟨K + 1, by simpa using h1, h2, fun j x hj hx => ?_⟩
      cases j with
      | zero => simp at hx; rw [← hx]; exact hy
      | succ j => exact h3 j x (by omega) (by simpa using hx)
    · rw [hy] at hf
      simp at hf
      subst hf
      exact ⟨0, rfl, hy, fun j x hj => by omega⟩
set_option maxRecDepth 100000 in
set_option maxHeartbeats 1600000 in
theorem rat_some {w : World} {base r : Nat} {L : List Sp} (p f : Int) (K : Nat) (s0 : Sp) (h : Rt w base r L) (hl : L.length ≤ 1000) (hK : L[K]? = some s0) (hq : beg p f s0 = true) (hf : ∀ j x, j < K → L[j]? = some x → beg p f x = false) : Calls Try.prog 31 #[pq r, i64 p, i64 f] w fun e w' => e = .returned (i64 K) ∧ Below w.heap.size w w' := by
  have HF := hid hf
  have HK := hid hK
  have HQ := hid (beg_iff.1 hq)
  have hKN : K < L.length := (List.getElem?_eq_some_iff.1 hK).1
  obtain ⟨hlo, ao, cap, hbk, hown⟩ := h
  have hcap := own_cap4 hown
  have HRd : Hid (Rd4 w ao L) := Rd4.own hown
  have d0 : w.cell? ⟨r, 0, none⟩ = some (.slice ao L.length cap) := blk_cell hbk 0
  have hrl := blk_lt hbk
  obtain ⟨N, hN⟩ : ∃ N, N = L.length := ⟨_, rfl⟩
  have HN : Hid (N = L.length) := hN
  rw [← hN] at d0 hl hcap hKN
  clear hbk hown hN
  clear hf hK hq
  go_enter Try.func31, Try.ntmps31
  go_wp2_with fail
  go_loopw [14] (fun i wr => ∃ k : Nat, k ≤ K ∧ i = i64 k ∧ Hid (Below w.heap.size w wr)) (fun i _ => N - (intOf i).toNat)
  case atStart => exact ⟨0, by omega, rfl, Below.refl _ _⟩
  case round =>
    obtain ⟨k, hk, rfl, HB⟩ := hrel
    have hlt : k < N := by omega
    have hkI : (k : Int) < N := by omega
    by_cases hkK : k < K
    · obtain ⟨s, hs⟩ : ∃ s, L[k]? = some s := ⟨_, List.getElem?_eq_getElem (by rw [← HN.out]; exact hlt)⟩
      obtain ⟨g, o, rfl, hgl, c0, c1, c2, c3⟩ := HRd.out.below HB.out k s hs
      have HB2 : Hid (Below w.heap.size w (wr.alloc (sO s 58))) := HB.out.alloc HB.out.size _
      have hb := HF.out k s hkK hs
      clear hs
      by_cases h1 : s.1 = p
      · have q1 : (s.1 == p) = true := beq_iff_eq.2 h1
        have q2 : (s.2.1 == f) = false := beq_false_of_ne fun e => by rw [beg_iff.2 ⟨h1, e⟩] at hb; cases hb
        clear h1 hb
        go_wp2_with fail
        exact ⟨⟨k + 1, by omega, by go_num, HB2⟩, by simp [intOf]; omega⟩
      · have q1 : (s.1 == p) = false := beq_false_of_ne h1
        clear h1 hb
        go_wp2_with fail
        exact ⟨⟨k + 1, by omega, by go_num, HB2⟩, by simp [intOf]; omega⟩
    · have hkk : k = K := by omega
      subst hkk
      obtain ⟨g, o, rfl, hgl, c0, c1, c2, c3⟩ := HRd.out.below HB.out k s0 HK.out
      have HB2 : Hid (Below w.heap.size w (wr.alloc (sO s0 58))) := HB.out.alloc HB.out.size _
      have q1 : (s0.1 == p) = true := beq_iff_eq.2 HQ.out.1
      have q2 : (s0.2.1 == f) = true := beq_iff_eq.2 HQ.out.2
      go_wp2_with fail
      go_ret
      exact ⟨rfl, HB2.out⟩
set_option maxRecDepth 100000 in
set_option maxHeartbeats 1600000 in
theorem rmay_ok {w : World} {base r : Nat} {L : List Sp} (p f : Int) (wt : Bool) (h : Rt w base r L) (hG : GS L) : Calls Try.prog 16 #[pq r, i64 p, i64 f, .bool wt] w fun e w' => e = .returned (.bool (mayB L p f wt)) ∧ Below w.heap.size w w' := by
  have hl : L.length ≤ 1000 := by have := hG.len; omega
  have HI : Hid (∀ s ∈ L, 0 ≤ s.2.1 ∧ 1 ≤ s.2.2.1 ∧ s.2.1 + s.2.2.1 ≤ 16) := fun s hs => (hG.isA hs).2.2
  have HM : Hid (mayB L p f wt = match L.find? (cov p f) with | some s => !wt || s.2.2.2 == 3 | none => false) := rfl
  generalize mayB L p f wt = B at *
  obtain ⟨hlo, ao, cap, hbk, hown⟩ := h
  have hcap := own_cap4 hown
  have HRd : Hid (Rd4 w ao L) := Rd4.own hown
  have d0 : w.cell? ⟨r, 0, none⟩ = some (.slice ao L.length cap) := blk_cell hbk 0
  have hrl := blk_lt hbk
  obtain ⟨N, hN⟩ : ∃ N, N = L.length := ⟨_, rfl⟩
  have HN : Hid (N = L.length) := hN
  rw [← hN] at d0 hl hcap
  clear hbk hown hN
  go_enter Try.func16, Try.ntmps16
  go_wp2_with fail
  go_loopw [16] (fun i wr => ∃ k : Nat, k ≤ N ∧ i = i64 k ∧ Hid (∀ j x, j < k → L[j]? = some x → cov p f x = false) ∧ Hid (Below w.heap.size w wr)) (fun i _ => N - (intOf i).toNat)
  case atStart => exact ⟨0, by omega, rfl, fun j x hj => by omega, Below.refl _ _⟩
  case round =>
    obtain ⟨k, hk, rfl, HJ, HB⟩ := hrel
    by_cases hlt : k < N
    · have hkI : (k : Int) < N := by omega
      obtain ⟨s, hs⟩ : ∃ s, L[k]? = some s := ⟨_, List.getElem?_eq_getElem (by rw [← HN.out]; exact hlt)⟩
      obtain ⟨g, o, rfl, hgl, c0, c1, c2, c3⟩ := HRd.out.below HB.out k s hs
      have HB2 : Hid (Below w.heap.size w (wr.alloc (sO s 58))) := HB.out.alloc HB.out.size _
      obtain ⟨i0, i1, i2⟩ := HI.out s (List.mem_of_getElem? hs)
      have HE : Hid (cov p f s = false → ∀ j x, j < k + 1 → L[j]? = some x → cov p f x = false) := fun hc j x hj hx => by
        by_cases e : j = k
        · subst e; rw [hs] at hx; cases hx; exact hc
        · exact HJ.out j x (by omega) hx
      have HY : Hid (cov p f s = true → B = (!wt || s.2.2.2 == 3)) := fun hc => by
        have : L.find? (cov p f) = some s := by
          rw [List.find?_eq_some_iff_getElem]
          obtain ⟨hk2, hks⟩ := List.getElem?_eq_some_iff.1 hs
          exact ⟨hc, k, hk2, hks, fun j hj => by simpa using HJ.out j _ hj (List.getElem?_eq_getElem (by omega))⟩
        rw [HM.out, this]
      clear hs
      by_cases h1 : s.1 = p
      · have q1 : (s.1 == p) = true := beq_iff_eq.2 h1
        by_cases h2 : s.2.1 ≤ f
        · by_cases h3 : f < s.2.1 + s.2.2.1
          · have hB := HY.out (cov_iff.2 ⟨h1, h2, h3⟩)
            have HBB := hid hB
            clear h1 HE HY hB
            cases wt with
            | false =>
              go_wp2_with fail
              go_ret
              exact ⟨by rw [HBB.out]; rfl, HB2.out⟩
            | true =>
              cases hp3 : s.2.2.2 == 3
              · rw [hp3] at HBB
                go_wp2_with fail
                go_ret
                exact ⟨by rw [HBB.out]; rfl, HB2.out⟩
              · rw [hp3] at HBB
                go_wp2_with fail
                go_ret
                exact ⟨by rw [HBB.out]; rfl, HB2.out⟩
          · have HE2 := hid (HE.out (Bool.eq_false_iff.2 fun hc => h3 (cov_iff.1 hc).2.2))
            clear h1 HE HY
            go_wp2_with fail
            exact ⟨⟨k + 1, by omega, by go_num, HE2, HB2⟩, by simp [intOf]; omega⟩
        · have HE2 := hid (HE.out (Bool.eq_false_iff.2 fun hc => h2 (cov_iff.1 hc).2.1))
          clear h1 HE HY
          go_wp2_with fail
          exact ⟨⟨k + 1, by omega, by go_num, HE2, HB2⟩, by simp [intOf]; omega⟩
      · have q1 : (s.1 == p) = false := beq_false_of_ne h1
        have HE2 := hid (HE.out (Bool.eq_false_iff.2 fun hc => h1 (cov_iff.1 hc).1))
        clear h1 HE HY
        go_wp2_with fail
        exact ⟨⟨k + 1, by omega, by go_num, HE2, HB2⟩, by simp [intOf]; omega⟩
    · have hB : B = false := by
        have : L.find? (cov p f) = none := List.find?_eq_none.2 fun s hs => by
          obtain ⟨j, hj, rfl⟩ := List.mem_iff_getElem.1 hs
          have := HJ.out j _ (by rw [← HN.out] at hj; omega) (List.getElem?_eq_getElem hj)
          rw [this]; simp
        rw [HM.out, this]
      have HBB := hid hB
      clear hB
      go_wp2_with fail
      go_ret
      exact ⟨by rw [HBB.out]; rfl, HB.out⟩
end Go.Proofs.Ytlkcpjefgelcoaa
