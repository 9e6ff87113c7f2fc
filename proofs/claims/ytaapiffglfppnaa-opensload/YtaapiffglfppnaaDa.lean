/- The document's table in memory; At, Find, free, left; no statement is proved in this text. -/
import Derived.Test.YtaapiffglfppnaaSl
namespace Go.Proofs.Ytaapiffglfppnaa
open Go.ChangeShapes Go.WideShapes Go.ChangeAt Go.RowKit Go.Deep
attribute [local go_sem ↓] Go.wp_at_zero Go.wp_at_succ

/-- The document's table: objects by IDs, slots by places. -/
def Rt (w : World) (base r : Nat) (O : List Op4) (S : List Sl3) : Prop := base ≤ r ∧ ∃ a1 c1 a2 c2, w.heap[r]? = some (.cells #[.slice a1 O.length c1, .slice a2 S.length c2] 30) ∧ w.ownsRow base 55 4 (.slice a1 O.length c1) O.length (ocn O) ∧ w.ownsRow base 57 3 (.slice a2 S.length c2) S.length (lcn S)
theorem Rt.lt {w : World} {base r : Nat} {O : List Op4} {S : List Sl3} (h : Rt w base r O S) : r < w.heap.size := by
  obtain ⟨_, a1, c1, a2, c2, h1, _⟩ := h
  exact blk_lt h1
theorem Rt.lo {w : World} {base r : Nat} {O : List Op4} {S : List Sl3} (h : Rt w base r O S) : base ≤ r := h.1
theorem Rt.lob {w : World} {base r : Nat} {O : List Op4} {S : List Sl3} (h : Rt w base r O S) : base ≤ w.heap.size := Nat.le_of_lt (Nat.lt_of_le_of_lt h.lo h.lt)
theorem Rt.below {w w' : World} {base r : Nat} {O : List Op4} {S : List Sl3} (h : Rt w base r O S) (hb : Below w.heap.size w w') : Rt w' base r O S := by
  obtain ⟨h0, a1, c1, a2, c2, h1, h2, h3⟩ := h
  exact ⟨h0, a1, c1, a2, c2, blk_below h1 hb, own_keep1 h2 fun k hk => hb.block k (h2.lt k hk).2, own_keep1 h3 fun k hk => hb.block k (h3.lt k hk).2⟩
theorem Rt.drew {w : World} {base r : Nat} {O : List Op4} {S : List Sl3} (h : Rt w base r O S) : Rt w.drew base r O S := by
  obtain ⟨h0, a1, c1, a2, c2, h1, h2, h3⟩ := h
  exact ⟨h0, a1, c1, a2, c2, h1, own_keep h2 (fun _ _ h => h), own_keep h3 (fun _ _ h => h)⟩
theorem Rt.fr {w w' : World} {base base' r : Nat} {O : List Op4} {S : List Sl3} {ts : List TypeId} (h : Rt w base r O S) (hf : Fr base' ts w w') (h1 : ts.contains 30 = false) (h2 : ts.contains 55 = false) (h3 : ts.contains 57 = false) : Rt w' base r O S := by
  obtain ⟨h0, a1, c1, a2, c2, g1, g2, g3⟩ := h
  exact ⟨h0, a1, c1, a2, c2, hf.kept _ _ g1 (by simp only [keeps, h1]; rfl), own_keep g2 fun k _ hk => hf.kept k _ hk (by simp only [keeps, h2]; rfl), own_keep g3 fun k _ hk => hf.kept k _ hk (by simp only [keeps, h3]; rfl)⟩
theorem rt_new (w : World) (base : Nat) (h : base ≤ w.heap.size) : Rt (w.alloc (.cells #[.slice none 0 0, .slice none 0 0] 30)) base w.heap.size [] [] := ⟨h, none, 0, none, 0, heap_last w _, World.ownsRow_nil _ _ _ _, World.ownsRow_nil _ _ _ _⟩
theorem uDo : Try.prog.underlying 27 = some (.slice 55) := by kernel_rfl
theorem iDo : (Try.prog.info? 55).map (fun i => (i.zero, i.size, i.bytes)) = some (some (ov (0, 0, 0, 0)), 4, 32) := by kernel_rfl
theorem uDl : Try.prog.underlying 28 = some (.slice 57) := by kernel_rfl
theorem iDl : (Try.prog.info? 57).map (fun i => (i.zero, i.size, i.bytes)) = some (some (lv (0, 0, 0)), 3, 24) := by kernel_rfl
/-- A slot at a place; an object of an ID. -/
def kp (p q : Int) (s : Sl3) : Bool := s.1 == p && s.2.1 == q
def ko (i : Int) (x : Op4) : Bool := x.1 == i
theorem kp_iff {p q : Int} {s : Sl3} : kp p q s = true ↔ s.1 = p ∧ s.2.1 = q := by simp [kp]
theorem ko_iff {i : Int} {x : Op4} : ko i x = true ↔ x.1 = i := by simp [ko]
theorem find_at {α : Type} {L : List α} {q : α → Bool} {s : α} (hf : L.find? q = some s) : ∃ K : Nat, L[K]? = some s ∧ q s = true ∧ ∀ j x, j < K → L[j]? = some x → q x = false := by
  induction L with
  | nil => simp at hf
  | cons y L ih =>
    rw [List.find?_cons] at hf
    cases hy : q y
    · rw [hy] at hf
      obtain ⟨K, h1, h2, h3⟩ := ih hf
      refine ⟨K + 1, by simpa using h1, h2, fun j x hj hx => ?_⟩
      cases j with
      | zero => simp at hx; rw [← hx]; exact hy
      | succ j => exact h3 j x (by omega) (by simpa using hx)
    · rw [hy] at hf
      simp at hf
      subst hf
      exact ⟨0, rfl, hy, fun j x hj => by omega⟩
set_option maxRecDepth 100000 in
set_option maxHeartbeats 1600000 in
theorem rat_none {w : World} {base r : Nat} {O : List Op4} {S : List Sl3} (p q : Int) (h : Rt w base r O S) (hl : S.length ≤ 1000) (hf : S.find? (kp p q) = none) : Calls Try.prog 41 #[pq r, i64 p, i64 q] w fun e w' => e = .returned (i64 (-1)) ∧ Below w.heap.size w w' := by
  have HF : Hid (∀ s ∈ S, kp p q s = false) := fun s hs => by simpa using List.find?_eq_none.1 hf s hs
  obtain ⟨hlo, a1, cc1, ao, cap, hbk, _, hown⟩ := h
  have hcap := own_capK hown
  have HRd : Hid (Rd3 w ao S) := Rd3.own hown
  have d0 : w.cell? ⟨r, 1, none⟩ = some (.slice ao S.length cap) := blk_cell hbk 1
  have hrl := blk_lt hbk
  obtain ⟨N, hN⟩ : ∃ N, N = S.length := ⟨_, rfl⟩
  have HN := hid hN
  rw [← hN] at d0 hl hcap
  clear hbk hown hN hf
  go_enter Try.func41, Try.ntmps41
  go_wp2_with fail
  go_loopw [14] (fun i wr => ∃ k : Nat, k ≤ N ∧ i = i64 k ∧ Hid (Below w.heap.size w wr)) (fun i _ => N - (intOf i).toNat)
  case atStart => exact ⟨0, by omega, rfl, Below.refl _ _⟩
  case round =>
    obtain ⟨k, hk, rfl, HB⟩ := hrel
    by_cases hlt : k < N
    · have hkI : (k : Int) < N := by omega
      obtain ⟨s, hs⟩ : ∃ s, S[k]? = some s := ⟨_, List.getElem?_eq_getElem (by rw [← HN.out]; exact hlt)⟩
      obtain ⟨g, o, rfl, hgl, c0, c1, c2⟩ := HRd.out.below HB.out k s hs
      have HB2 : Hid (Below w.heap.size w (wr.alloc (lO s 57))) := HB.out.alloc HB.out.size _
      have hb := HF.out s (List.mem_of_getElem? hs)
      clear hs
      by_cases h1 : s.1 = p
      · have q1 : (s.1 == p) = true := beq_iff_eq.2 h1
        have q2 : (s.2.1 == q) = false := beq_false_of_ne fun e => by rw [kp_iff.2 ⟨h1, e⟩] at hb; cases hb
        clear h1 hb
        go_wp2_with fail
        exact ⟨⟨k + 1, by omega, by go_num, HB2⟩, by simp [intOf]; omega⟩
      · have q1 : (s.1 == p) = false := beq_false_of_ne h1
        clear h1 hb
        go_wp2_with fail
        exact ⟨⟨k + 1, by omega, by go_num, HB2⟩, by simp [intOf]; omega⟩
    · go_wp2_with fail
      go_ret
      exact ⟨rfl, HB.out⟩
set_option maxRecDepth 100000 in
set_option maxHeartbeats 1600000 in
theorem rat_some {w : World} {base r : Nat} {O : List Op4} {S : List Sl3} (p q : Int) (K : Nat) (s0 : Sl3) (h : Rt w base r O S) (hl : S.length ≤ 1000) (hK : S[K]? = some s0) (hq : kp p q s0 = true) (hf : ∀ j x, j < K → S[j]? = some x → kp p q x = false) : Calls Try.prog 41 #[pq r, i64 p, i64 q] w fun e w' => e = .returned (i64 K) ∧ Below w.heap.size w w' := by
  have HF := hid hf
  have HK := hid hK
  have HQ := hid (kp_iff.1 hq)
  have hKN : K < S.length := (List.getElem?_eq_some_iff.1 hK).1
  obtain ⟨hlo, a1, cc1, ao, cap, hbk, _, hown⟩ := h
  have hcap := own_capK hown
  have HRd : Hid (Rd3 w ao S) := Rd3.own hown
  have d0 : w.cell? ⟨r, 1, none⟩ = some (.slice ao S.length cap) := blk_cell hbk 1
  have hrl := blk_lt hbk
  obtain ⟨N, hN⟩ : ∃ N, N = S.length := ⟨_, rfl⟩
  have HN := hid hN
  rw [← hN] at d0 hl hcap hKN
  clear hbk hown hN hf hK hq
  go_enter Try.func41, Try.ntmps41
  go_wp2_with fail
  go_loopw [14] (fun i wr => ∃ k : Nat, k ≤ K ∧ i = i64 k ∧ Hid (Below w.heap.size w wr)) (fun i _ => N - (intOf i).toNat)
  case atStart => exact ⟨0, by omega, rfl, Below.refl _ _⟩
  case round =>
    obtain ⟨k, hk, rfl, HB⟩ := hrel
    have hlt : k < N := by omega
    have hkI : (k : Int) < N := by omega
    by_cases hkK : k < K
    · obtain ⟨s, hs⟩ : ∃ s, S[k]? = some s := ⟨_, List.getElem?_eq_getElem (by rw [← HN.out]; exact hlt)⟩
      obtain ⟨g, o, rfl, hgl, c0, c1, c2⟩ := HRd.out.below HB.out k s hs
      have HB2 : Hid (Below w.heap.size w (wr.alloc (lO s 57))) := HB.out.alloc HB.out.size _
      have hb := HF.out k s hkK hs
      clear hs
      by_cases h1 : s.1 = p
      · have q1 : (s.1 == p) = true := beq_iff_eq.2 h1
        have q2 : (s.2.1 == q) = false := beq_false_of_ne fun e => by rw [kp_iff.2 ⟨h1, e⟩] at hb; cases hb
        clear h1 hb
        go_wp2_with fail
        exact ⟨⟨k + 1, by omega, by go_num, HB2⟩, by simp [intOf]; omega⟩
      · have q1 : (s.1 == p) = false := beq_false_of_ne h1
        clear h1 hb
        go_wp2_with fail
        exact ⟨⟨k + 1, by omega, by go_num, HB2⟩, by simp [intOf]; omega⟩
    · have hkk : k = K := by omega
      subst hkk
      obtain ⟨g, o, rfl, hgl, c0, c1, c2⟩ := HRd.out.below HB.out k s0 HK.out
      have HB2 : Hid (Below w.heap.size w (wr.alloc (lO s0 57))) := HB.out.alloc HB.out.size _
      have q1 : (s0.1 == p) = true := beq_iff_eq.2 HQ.out.1
      have q2 : (s0.2.1 == q) = true := beq_iff_eq.2 HQ.out.2
      go_wp2_with fail
      go_ret
      exact ⟨rfl, HB2.out⟩
set_option maxRecDepth 100000 in
set_option maxHeartbeats 1600000 in
theorem rfind_none {w : World} {base r : Nat} {O : List Op4} {S : List Sl3} (i : Int) (h : Rt w base r O S) (hl : O.length ≤ 1000) (hf : O.find? (ko i) = none) : Calls Try.prog 38 #[pq r, i64 i] w fun e w' => e = .returned (i64 (-1)) ∧ Below w.heap.size w w' := by
  have HF : Hid (∀ s ∈ O, ko i s = false) := fun s hs => by simpa using List.find?_eq_none.1 hf s hs
  obtain ⟨hlo, ao, cap, a2, cc2, hbk, hown, _⟩ := h
  have hcap := own_capK hown
  have HRd : Hid (Rd4 w ao O) := Rd4.own hown
  have d0 : w.cell? ⟨r, 0, none⟩ = some (.slice ao O.length cap) := blk_cell hbk 0
  have hrl := blk_lt hbk
  obtain ⟨N, hN⟩ : ∃ N, N = O.length := ⟨_, rfl⟩
  have HN := hid hN
  rw [← hN] at d0 hl hcap
  clear hbk hown hN hf
  go_enter Try.func38, Try.ntmps38
  go_wp2_with fail
  go_loopw [12] (fun v wr => ∃ k : Nat, k ≤ N ∧ v = i64 k ∧ Hid (Below w.heap.size w wr)) (fun v _ => N - (intOf v).toNat)
  case atStart => exact ⟨0, by omega, rfl, Below.refl _ _⟩
  case round =>
    obtain ⟨k, hk, rfl, HB⟩ := hrel
    by_cases hlt : k < N
    · have hkI : (k : Int) < N := by omega
      obtain ⟨s, hs⟩ : ∃ s, O[k]? = some s := ⟨_, List.getElem?_eq_getElem (by rw [← HN.out]; exact hlt)⟩
      obtain ⟨g, o, rfl, hgl, c0, c1, c2, c3⟩ := HRd.out.below HB.out k s hs
      have HB2 : Hid (Below w.heap.size w (wr.alloc (oO s 55))) := HB.out.alloc HB.out.size _
      have q1 : (s.1 == i) = false := HF.out s (List.mem_of_getElem? hs)
      clear hs
      go_wp2_with fail
      exact ⟨⟨k + 1, by omega, by go_num, HB2⟩, by simp [intOf]; omega⟩
    · go_wp2_with fail
      go_ret
      exact ⟨rfl, HB.out⟩
set_option maxRecDepth 100000 in
set_option maxHeartbeats 1600000 in
theorem rfind_some {w : World} {base r : Nat} {O : List Op4} {S : List Sl3} (i : Int) (K : Nat) (s0 : Op4) (h : Rt w base r O S) (hl : O.length ≤ 1000) (hK : O[K]? = some s0) (hq : ko i s0 = true) (hf : ∀ j x, j < K → O[j]? = some x → ko i x = false) : Calls Try.prog 38 #[pq r, i64 i] w fun e w' => e = .returned (i64 K) ∧ Below w.heap.size w w' := by
  have HF := hid hf
  have HK := hid hK
  have q1 : (s0.1 == i) = true := hq
  have hKN : K < O.length := (List.getElem?_eq_some_iff.1 hK).1
  obtain ⟨hlo, ao, cap, a2, cc2, hbk, hown, _⟩ := h
  have hcap := own_capK hown
  have HRd : Hid (Rd4 w ao O) := Rd4.own hown
  have d0 : w.cell? ⟨r, 0, none⟩ = some (.slice ao O.length cap) := blk_cell hbk 0
  have hrl := blk_lt hbk
  obtain ⟨N, hN⟩ : ∃ N, N = O.length := ⟨_, rfl⟩
  have HN := hid hN
  rw [← hN] at d0 hl hcap hKN
  clear hbk hown hN hf hK hq
  go_enter Try.func38, Try.ntmps38
  go_wp2_with fail
  go_loopw [12] (fun v wr => ∃ k : Nat, k ≤ K ∧ v = i64 k ∧ Hid (Below w.heap.size w wr)) (fun v _ => N - (intOf v).toNat)
  case atStart => exact ⟨0, by omega, rfl, Below.refl _ _⟩
  case round =>
    obtain ⟨k, hk, rfl, HB⟩ := hrel
    have hlt : k < N := by omega
    have hkI : (k : Int) < N := by omega
    by_cases hkK : k < K
    · obtain ⟨s, hs⟩ : ∃ s, O[k]? = some s := ⟨_, List.getElem?_eq_getElem (by rw [← HN.out]; exact hlt)⟩
      obtain ⟨g, o, rfl, hgl, c0, c1, c2, c3⟩ := HRd.out.below HB.out k s hs
      have HB2 : Hid (Below w.heap.size w (wr.alloc (oO s 55))) := HB.out.alloc HB.out.size _
      have q2 : (s.1 == i) = false := HF.out k s hkK hs
      clear hs
      go_wp2_with fail
      exact ⟨⟨k + 1, by omega, by go_num, HB2⟩, by simp [intOf]; omega⟩
    · have hkk : k = K := by omega
      subst hkk
      obtain ⟨g, o, rfl, hgl, c0, c1, c2, c3⟩ := HRd.out.below HB.out k s0 HK.out
      have HB2 : Hid (Below w.heap.size w (wr.alloc (oO s0 55))) := HB.out.alloc HB.out.size _
      go_wp2_with fail
      go_ret
      exact ⟨rfl, HB2.out⟩
/-- A process's lowest free slot; 6: there is none. -/
def FreeS (S : List Sl3) (p : Int) (f : Nat) : Prop := f ≤ 6 ∧ (∀ j : Nat, j < f → S.find? (kp p j) ≠ none) ∧ (f < 6 → S.find? (kp p f) = none)
theorem freeS_dec (S : List Sl3) (p : Int) : ∃ f, FreeS S p f := by
  have key : ∀ k, k ≤ 6 → (∃ f, FreeS S p f) ∨ ∀ j : Nat, j < k → S.find? (kp p j) ≠ none := by
    intro k
    induction k with
    | zero => intro _; exact .inr fun j hj => by omega
    | succ k ih =>
      intro hk
      rcases ih (by omega) with h | h
      · exact .inl h
      · cases ha : S.find? (kp p k) with
        | none => exact .inl ⟨k, by omega, h, fun _ => ha⟩
        | some a =>
          refine .inr fun j hj => ?_
          by_cases e : j = k
          · subst e; rw [ha]; simp
          · exact h j (by omega)
  rcases key 6 (Nat.le_refl _) with h | h
  · exact h
  · exact ⟨6, Nat.le_refl _, h, fun h => by omega⟩
set_option maxRecDepth 100000 in
set_option maxHeartbeats 1600000 in
theorem rfree_ok {w : World} {base r : Nat} {O : List Op4} {S : List Sl3} (p : Int) (f : Nat) (h : Rt w base r O S) (hl : S.length ≤ 1000) (hf : FreeS S p f) : Calls Try.prog 56 #[pq r, i64 p] w fun e w' => e = .returned (i64 f) ∧ Below w.heap.size w w' := by
  have HR := hid h
  obtain ⟨h6, hj, hn⟩ := hf
  have HJ : Hid (∀ W (j : Nat), Rt W base r O S → j < f → ∃ K : Nat, Calls Try.prog 41 #[pq r, i64 p, i64 j] W fun e w' => e = .returned (i64 K) ∧ Below W.heap.size W w') := fun W j hW hlt => by
    cases hh : S.find? (kp p j) with
    | none => exact absurd hh (hj j hlt)
    | some s =>
      obtain ⟨K, h1, h2, h3⟩ := find_at hh
      exact ⟨K, rat_some p j K s hW hl h1 h2 h3⟩
  have HNn := hid fun W (hW : Rt W base r O S) (hlt : f < 6) => rat_none p f hW hl (hn hlt)
  clear h hj hn
  go_enter Try.func56, Try.ntmps56
  go_wp2_with fail
  go_loopw [5] (fun v wr => ∃ k : Nat, k ≤ f ∧ v = i64 k ∧ Hid (Below w.heap.size w wr)) (fun v _ => 6 - (intOf v).toNat)
  case atStart => exact ⟨0, by omega, rfl, Below.refl _ _⟩
  case round =>
    obtain ⟨k, hk, rfl, HB⟩ := hrel
    have HRw := hid (HR.out.below HB.out)
    by_cases hlt : k < f
    · have hkI : (k : Int) < 6 := by omega
      obtain ⟨K, hC⟩ := HJ.out wr k HRw.out hlt
      have HC := hid hC
      have hK0 : (0 : Int) ≤ K := by omega
      clear hC
      go_wp2_with fail
      refine HC.out.mono ?_
      rintro e w2 ⟨rfl, hb⟩
      have HB2 : Hid (Below w.heap.size w w2) := HB.out.trans (hb.mono HB.out.size)
      clear hb HC
      go_wp2_with fail
      exact ⟨⟨k + 1, by omega, by go_num, HB2⟩, by simp [intOf]; omega⟩
    · obtain rfl : k = f := by omega
      by_cases h5 : k < 6
      · have hkI : (k : Int) < 6 := by omega
        have HC := hid (HNn.out wr HRw.out h5)
        go_wp2_with fail
        refine HC.out.mono ?_
        rintro e w2 ⟨rfl, hb⟩
        have HB2 : Hid (Below w.heap.size w w2) := HB.out.trans (hb.mono HB.out.size)
        clear hb HC
        go_wp2_with fail
        go_ret
        exact ⟨rfl, HB2.out⟩
      · have hkI : ¬ (k : Int) < 6 := by omega
        go_wp2_with fail
        go_ret
        exact ⟨rfl, HB.out⟩
theorem flt_yes {α : Type} {f : α → Bool} {L : List α} {k : Nat} {e : α} (h : L[k]? = some e) (hf : f e = true) : (L.take (k + 1)).filter f = (L.take k).filter f ++ [e] := by
  rw [takeL h, List.filter_append]
  simp [hf]
theorem flt_no {α : Type} {f : α → Bool} {L : List α} {k : Nat} {e : α} (h : L[k]? = some e) (hf : f e = false) : (L.take (k + 1)).filter f = (L.take k).filter f := by
  rw [takeL h, List.filter_append]
  simp [hf]
/-- All slots but those of a process, or one of its. -/
def lfF (p q : Int) (s : Sl3) : Bool := s.1 != p || (decide (0 ≤ q) && s.2.1 != q)
def lfL (S : List Sl3) (p q : Int) : List Sl3 := S.filter (lfF p q)
def GotS (w w' : World) (e : Ending) (M : List Sl3) : Prop := ∃ ao cap, e = .returned (.slice ao M.length cap) ∧ w'.ownsRow w.heap.size 57 3 (.slice ao M.length cap) M.length (lcn M)
set_option maxRecDepth 100000 in
set_option maxHeartbeats 3200000 in
theorem rleft_ok {w : World} {base r : Nat} {O : List Op4} {S : List Sl3} (p q : Int) (h : Rt w base r O S) (hl : S.length ≤ 1000) : Calls Try.prog 59 #[pq r, i64 p, i64 q] w fun e w' => GotS w w' e (lfL S p q) ∧ Below w.heap.size w w' := by
  obtain ⟨hlo, a1, cc1, ao, cap, hbk, _, hown⟩ := h
  have hcap := own_capK hown
  have HRd : Hid (Rd3 w ao S) := Rd3.own hown
  have d0 : w.cell? ⟨r, 1, none⟩ = some (.slice ao S.length cap) := blk_cell hbk 1
  have hrl := blk_lt hbk
  obtain ⟨N, hN⟩ : ∃ N, N = S.length := ⟨_, rfl⟩
  have HN := hid hN
  rw [← hN] at d0 hl hcap
  clear hbk hown hN
  go_enter Try.func59, Try.ntmps59
  go_wp2_with fail
  go_loopw [7, 15] (fun v i wr => ∃ (k n : Nat) (ao2 : Option Addr) (cap2 : Nat), k ≤ N ∧ n ≤ k ∧ i = i64 k ∧ v = .slice ao2 n cap2 ∧ Hid (n = ((S.take k).filter (lfF p q)).length ∧ wr.ownsRow w.heap.size 57 3 (.slice ao2 n cap2) n (lcn ((S.take k).filter (lfF p q)))) ∧ Hid (Below w.heap.size w wr)) (fun _ i _ => N - (intOf i).toNat)
  case atStart => exact ⟨0, 0, none, 0, by omega, by omega, rfl, rfl, ⟨rfl, World.ownsRow_nil _ _ _ _⟩, Below.refl _ _⟩
  case round =>
    obtain ⟨k, n, ao2, cap2, hk, hn, rfl, rfl, HO, HB⟩ := hrel
    by_cases hlt : k < N
    · have hkI : (k : Int) < N := by omega
      obtain ⟨e, he⟩ : ∃ e, S[k]? = some e := ⟨_, List.getElem?_eq_getElem (by rw [← HN.out]; exact hlt)⟩
      obtain ⟨g0, o, rfl, hgl, c0, c1, c2⟩ := HRd.out.below HB.out k e he
      have HBV : Hid (Below w.heap.size w (wr.alloc (lO e 57))) := HB.out.alloc HB.out.size _
      cases hfe : lfF p q e
      · have HE : Hid (n = ((S.take (k + 1)).filter (lfF p q)).length ∧ (wr.alloc (lO e 57)).ownsRow w.heap.size 57 3 (.slice ao2 n cap2) n (lcn ((S.take (k + 1)).filter (lfF p q)))) := by
          rw [flt_no he hfe]
          exact ⟨HO.out.1, HO.out.2.alloc _⟩
        unfold lfF at hfe
        clear he
        have q1 : (e.1 != p) = false := by
          cases hh : (e.1 != p)
          · rfl
          · rw [hh] at hfe; cases hfe
        rw [q1, Bool.false_or] at hfe
        by_cases h0 : 0 ≤ q
        · rw [decide_eq_true h0, Bool.true_and] at hfe
          go_wp2_with fail
          exact ⟨⟨k + 1, n, ao2, cap2, by omega, by omega, by go_num, rfl, HE, HBV⟩, by simp [intOf]; omega⟩
        · clear hfe
          go_wp2_with fail
          exact ⟨⟨k + 1, n, ao2, cap2, by omega, by omega, by go_num, rfl, HE, HBV⟩, by simp [intOf]; omega⟩
      · obtain ⟨ao3, cap3, w3, hrun, hown3, hfr3, _, _⟩ := app_far (te := 57) uDl iDl rfl (by omega) (by omega) (V := wr.alloc (lO e 57)) (HO.out.2.alloc _) (lC e) rfl (lC_one _) (by omega) HBV.out.size
        have e1 : (wr.alloc (lO e 57)).heap.size = wr.heap.size + 1 := by simp
        rw [e1] at hrun
        have HRun : Hid ((Builtin.append_ #[28, 28] 28 #[.slice ao2 n cap2, .slice (some ⟨wr.heap.size + 1, 0, none⟩) 1 1]).run Try.prog ((wr.alloc (lO e 57)).alloc (lO e 57)) = .ok (.slice ao3 (n + 1) cap3) w3) := hrun
        have HB3 : Hid (Below w.heap.size w w3) := HBV.out.trans hfr3.below
        have HE : Hid (n + 1 = ((S.take (k + 1)).filter (lfF p q)).length ∧ w3.ownsRow w.heap.size 57 3 (.slice ao3 (n + 1) cap3) (n + 1) (lcn ((S.take (k + 1)).filter (lfF p q)))) := by
          rw [flt_yes he hfe, lcn_app, lcn_one, List.length_append, ← HO.out.1]
          exact ⟨rfl, hown3⟩
        unfold lfF at hfe
        clear hrun hown3 hfr3 e1 he
        cases q1 : (e.1 != p)
        · rw [q1, Bool.false_or, Bool.and_eq_true, decide_eq_true_eq] at hfe
          obtain ⟨h0, q2⟩ := hfe
          go_wp2_with (at_builtin; refine wpList_app_run rfl (.tmp 33) (.tmp 35) 28 rfl _ _ rfl rfl 28 rfl _ _ HRun.out ?_)
          exact ⟨⟨k + 1, n + 1, ao3, cap3, by omega, by omega, by go_num, rfl, HE, HB3⟩, by simp [intOf]; omega⟩
        · clear hfe
          go_wp2_with (at_builtin; refine wpList_app_run rfl (.tmp 33) (.tmp 35) 28 rfl _ _ rfl rfl 28 rfl _ _ HRun.out ?_)
          exact ⟨⟨k + 1, n + 1, ao3, cap3, by omega, by omega, by go_num, rfl, HE, HB3⟩, by simp [intOf]; omega⟩
    · have HG : Hid (GotS w wr (.returned (.slice ao2 n cap2)) (lfL S p q)) := by
        have h1 := HO.out
        rw [List.take_of_length_le (by rw [← HN.out]; omega)] at h1
        refine ⟨ao2, cap2, by rw [h1.1]; rfl, ?_⟩
        have := h1.2
        rw [h1.1] at this
        exact this
      go_wp2_with fail
      go_ret
      exact ⟨HG.out, HB.out⟩
end Go.Proofs.Ytaapiffglfppnaa
