/- byID, Opens, Refs, free, Add; no statement is proved in this text. -/
import Derived.Test.YtaapiffglfppnaaSo
namespace Go.Proofs.Ytaapiffglfppnaa
open Go.ChangeShapes Go.WideShapes Go.ChangeAt Go.RowKit Go.Deep
attribute [local go_sem ↓] Go.wp_at_zero Go.wp_at_succ

/-- What byID answers. -/
def GotB (_w w' : World) (e : Ending) (X : List Op4) : Prop := ∃ ao cap M, e = .returned (.slice ao M.length cap) ∧ M.Perm (apL X) ∧ M.Pairwise (fun a b => a.1 ≤ b.1) ∧ Rd4 w' ao M ∧ M.length ≤ cap
theorem apS_sub {acc : List Op4} {x y : Op4} (h : y ∈ apS acc x) : y ∈ acc ∨ y = x := by
  unfold apS at h
  split at h
  · exact .inl h
  · rcases List.mem_append.1 h with h | h
    · exact .inl h
    · exact .inr (by simpa using h)
theorem ap_sub (X : List Op4) : ∀ (acc : List Op4) (y : Op4), y ∈ X.foldl apS acc → y ∈ acc ∨ y ∈ X := by
  induction X with
  | nil => intro acc y h; exact .inl h
  | cons x X ih =>
    intro acc y h
    rcases ih (apS acc x) y h with h | h
    · rcases apS_sub h with h | h
      · exact .inl h
      · exact .inr (by rw [h]; simp)
    · exact .inr (List.mem_cons_of_mem _ h)
theorem apL_sub {X : List Op4} {y : Op4} (h : y ∈ apL X) : y ∈ X := by
  rcases ap_sub X [] y h with h | h
  · cases h
  · exact h
theorem apL_len (X : List Op4) : (apL X).length ≤ X.length := by
  have := ap_len X X.length
  rw [List.take_of_length_le (Nat.le_refl _)] at this
  exact this
set_option maxRecDepth 100000 in
set_option maxHeartbeats 1600000 in
theorem byid_ok (w : World) (ao : Option Addr) (cap : Nat) (X : List Op4) (hX : X.length ≤ 100) (hr : ∀ x ∈ X, 0 ≤ x.1 ∧ x.1 < 36) (hR : Rd4 w ao X) : Calls Try.prog 43 #[.slice ao X.length cap] w fun e w' => GotB w w' e X ∧ Below w.heap.size w w' := by
  have HA := hid (apart_ok w ao cap X hX hR)
  have HRg : Hid (∀ x ∈ apL X, 0 ≤ x.1 ∧ x.1 < 36) := fun x hx => hr x (apL_sub hx)
  have HL : Hid ((apL X).length ≤ 1000) := by have := apL_len X; show (apL X).length ≤ 1000; omega
  have hl100 : (apL X).length ≤ 100 := by have := apL_len X; omega
  obtain ⟨G, hG⟩ : ∃ G : World → World → Ending → Prop, G = fun w w' e => GotB w w' e X := ⟨_, rfl⟩
  have HG := hid hG
  suffices h : Calls Try.prog 43 #[.slice ao X.length cap] w fun e w' => G w w' e ∧ Below w.heap.size w w' by rw [hG] at h; exact h
  obtain ⟨n, hn⟩ : ∃ n, n = (apL X).length := ⟨_, rfl⟩
  have HN := hid hn
  unfold GotO at HA
  rw [← hn] at HA hl100
  generalize X.length = N at *
  clear hR hr hX hG hn
  go_enter Try.func43, Try.ntmps43
  go_wp2_with fail
  refine HA.out.mono ?_
  rintro e w1 ⟨⟨ao1, cap1, rfl, hown⟩, hb1⟩
  have HB1 := hid hb1
  have hcap := own_capK hown
  have HS := hid (sort_ok w1 w.heap.size ao1 cap1 (apL X) HRg.out HL.out (by rw [← HN.out]; exact hown))
  rw [← HN.out] at HS
  clear hown hb1 HA
  go_wp2_with fail
  refine HS.out.mono ?_
  rintro e w2 ⟨rfl, ⟨Y, hp, hs, hR⟩, hb2⟩
  have HB2 : Hid (Below w.heap.size w w2) := HB1.out.trans hb2
  have HY : Hid (G w w2 (.returned (.slice ao1 n cap1))) := by
    have hl : Y.length = n := by rw [HN.out]; exact hp.length_eq
    rw [HG.out]
    exact ⟨ao1, cap1, Y, by rw [hl], hp, hs, hR, by omega⟩
  clear hb2 HS hp hs hR
  go_wp2_with fail
  go_ret
  exact ⟨HY.out, HB2.out⟩
/-- The IDs of objects are small. -/
def Sml (A : Tab) (V : Nat → Op4) : Prop := ∀ r g a, r < 6 → g < 6 → A r g = some a → 0 ≤ (V a).1 ∧ (V a).1 < 36
theorem nm_len (A : Tab) (V : Nat → Op4) : (nmL A V).length ≤ 36 := by
  rw [nmL, List.length_map]
  exact adU_le A 6
theorem Sml.nm {A : Tab} {V : Nat → Op4} (h : Sml A V) : ∀ x ∈ nmL A V, 0 ≤ x.1 ∧ x.1 < 36 := fun x hx => by
  obtain ⟨y, hy, rfl⟩ := List.mem_map.1 hx
  obtain ⟨h1, h2, h3⟩ := adU_mem hy
  exact h _ _ _ h1 h2 h3
set_option maxRecDepth 100000 in
set_option maxHeartbeats 1600000 in
theorem opens_ok (w : World) (v : Value) (A : Tab) (V : Nat → Op4) (h : Tv w v A V) (hS : Sml A V) : Calls Try.prog 18 #[v] w fun e w' => GotB w w' e (nmL A V) ∧ Below w.heap.size w w' := by
  have HN := hid (named_ok w v A V h)
  have HB := hid fun W ao cap (hR : Rd4 W ao (nmL A V)) => byid_ok W ao cap (nmL A V) (by have := nm_len A V; omega) hS.nm hR
  obtain ⟨n, hn⟩ : ∃ n, n = (nmL A V).length := ⟨_, rfl⟩
  have HLn := hid hn
  obtain ⟨G, hG⟩ : ∃ G : World → Ending → Prop, G = fun w' e => GotB w w' e (nmL A V) := ⟨_, rfl⟩
  have HG := hid hG
  suffices hh : Calls Try.prog 18 #[v] w fun e w' => G w' e ∧ Below w.heap.size w w' by rw [hG] at hh; exact hh
  unfold GotO at HN
  rw [← hn] at HN HB
  clear h hS hn hG
  go_enter Try.func18, Try.ntmps18
  go_wp2_with fail
  refine HN.out.mono ?_
  rintro e w1 ⟨⟨ao1, cap1, rfl, hown⟩, hb1⟩
  have HB1 := hid hb1
  have HC := hid (HB.out w1 ao1 cap1 (Rd4.own (by rw [← HLn.out]; exact hown)))
  clear hown hb1 HN HB
  go_wp2_with fail
  refine HC.out.mono ?_
  rintro e w2 ⟨⟨ao2, cap2, M, rfl, hp, hs, hR, hc⟩, hb2⟩
  have HB2 : Hid (Below w.heap.size w w2) := HB1.out.trans (hb2.mono HB1.out.size)
  have HY : Hid (G w2 (.returned (.slice ao2 M.length cap2))) := by
    rw [HG.out]
    exact ⟨ao2, cap2, M, rfl, hp, hs, hR, hc⟩
  clear hb2 HC hp hs hR hc
  go_wp2_with fail
  go_ret
  exact ⟨HY.out, HB2.out⟩
/-- How many name an object. -/
def refN (X : List Op4) (k o : Int) : Nat := (X.filter fun x => x.2.1 == k && x.2.2.1 == o).length
theorem refN_snoc {X : List Op4} {i : Nat} {x : Op4} (h : X[i]? = some x) (k o : Int) : refN (X.take (i + 1)) k o = refN (X.take i) k o + if (x.2.1 == k && x.2.2.1 == o) = true then 1 else 0 := by
  unfold refN
  rw [takeL h, List.filter_append, List.length_append]
  cases hh : (x.2.1 == k && x.2.2.1 == o) <;> simp [hh]
theorem refN_le (X : List Op4) (k o : Int) : refN X k o ≤ X.length := List.length_filter_le _ _
set_option maxRecDepth 100000 in
set_option maxHeartbeats 1600000 in
theorem refs_ok (w : World) (v : Value) (A : Tab) (V : Nat → Op4) (kd ob : Int) (h : Tv w v A V) : Calls Try.prog 12 #[v, i64 kd, i64 ob] w fun e w' => e = .returned (i64 (refN (nmL A V) kd ob)) ∧ Below w.heap.size w w' := by
  have HNm := hid (named_ok w v A V h)
  have hl := nm_len A V
  generalize nmL A V = X at *
  obtain ⟨N, hN⟩ : ∃ N, N = X.length := ⟨_, rfl⟩
  have HN := hid hN
  unfold GotO at HNm
  rw [← hN] at HNm hl
  clear h hN
  obtain ⟨R, hR⟩ : ∃ R, R = refN X kd ob := ⟨_, rfl⟩
  have HR := hid hR
  rw [← hR]
  clear hR
  go_enter Try.func12, Try.ntmps12
  go_wp2_with fail
  refine HNm.out.mono ?_
  rintro e w1 ⟨⟨ao, cap, rfl, hown⟩, hb1⟩
  have HRd : Hid (Rd4 w1 ao X) := Rd4.own (by rw [← HN.out]; exact hown)
  have HB1 := hid hb1
  have hcap := own_capK hown
  clear hown hb1 HNm
  go_wp2_with fail
  go_loopw [7, 13] (fun v i wr => ∃ (k n : Nat), k ≤ N ∧ n ≤ k ∧ i = i64 k ∧ v = i64 n ∧ Hid (n = refN (X.take k) kd ob) ∧ Hid (Below w1.heap.size w1 wr)) (fun _ i _ => N - (intOf i).toNat)
  case atStart => exact ⟨0, 0, by omega, by omega, rfl, rfl, rfl, Below.refl _ _⟩
  case round =>
    obtain ⟨k, n, hk, hn, rfl, rfl, HO, HB⟩ := hrel
    by_cases hlt : k < N
    · have hkI : (k : Int) < N := by omega
      obtain ⟨x, hx⟩ : ∃ x, X[k]? = some x := ⟨_, List.getElem?_eq_getElem (by rw [← HN.out]; exact hlt)⟩
      obtain ⟨g, o, rfl, hgl, c0, c1, c2, c3⟩ := HRd.out.below HB.out k x hx
      have HBV : Hid (Below w1.heap.size w1 (wr.alloc (oO x 54))) := HB.out.alloc HB.out.size _
      have hsn := refN_snoc hx kd ob
      clear hx
      cases q1 : (x.2.1 == kd)
      · rw [q1, Bool.false_and, if_neg (by decide), Nat.add_zero] at hsn
        have HE : Hid (n = refN (X.take (k + 1)) kd ob) := by rw [Hid, hsn]; exact HO.out
        clear hsn
        go_wp2_with fail
        exact ⟨⟨k + 1, n, by omega, by omega, by go_num, rfl, HE, HBV⟩, by simp [intOf]; omega⟩
      · cases q2 : (x.2.2.1 == ob)
        · rw [q1, q2, Bool.and_false, if_neg (by decide), Nat.add_zero] at hsn
          have HE : Hid (n = refN (X.take (k + 1)) kd ob) := by rw [Hid, hsn]; exact HO.out
          clear hsn
          go_wp2_with fail
          exact ⟨⟨k + 1, n, by omega, by omega, by go_num, rfl, HE, HBV⟩, by simp [intOf]; omega⟩
        · rw [q1, q2, Bool.and_true, if_pos rfl] at hsn
          have HE : Hid (n + 1 = refN (X.take (k + 1)) kd ob) := by rw [Hid, hsn, ← HO.out]
          clear hsn
          go_wp2_with fail
          exact ⟨⟨k + 1, n + 1, by omega, by omega, by go_num, by go_num, HE, HBV⟩, by simp [intOf]; omega⟩
    · have HE : Hid (n = R) := by
        have := HO.out
        rw [List.take_of_length_le (by rw [← HN.out]; omega)] at this
        rw [Hid, HR.out]
        exact this
      have HBz : Hid (Below w.heap.size w wr) := HB1.out.trans (HB.out.mono HB1.out.size)
      go_wp2_with fail
      go_ret
      exact ⟨by rw [HE.out]; rfl, HBz.out⟩
end Go.Proofs.Ytaapiffglfppnaa
