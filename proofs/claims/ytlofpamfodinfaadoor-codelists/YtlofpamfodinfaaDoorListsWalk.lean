/- CodeLists' walk: the instructions of any code and the code of any instructions are as the document's; how a list of instructions is read; no statement is proved in this text. -/
import Derived.Test.YtlofpamfodinfaaDoorRJoin
import Derived.Deep.MidRow
namespace Go.Proofs.YtlofpamfodinfaaDoor
open Go.ChangeShapes Go.WideShapes Go.ChangeAt Go.RowKit

instance : Inhabited In := ⟨zI⟩
theorem insts_read {H : Type} {enc : TypeId × Value → H} {W : World} {spare : Nat → Bool} {held : Bool} {a : Option Addr} {len cap : Nat} {d : DataW H} {ps : List MemPlace}
    (h : DataW.Trod enc Tryd.prog W 0 spare held 39 (.slice a len cap) d ps) : len ≤ maxLen ∧ ∃ xs : List In, xs.length = len ∧ ISl W a xs := by
  obtain ⟨fuel, hf⟩ := h
  rcases Deep.open_slice Tryd.underlying39 hf with ⟨hcs, _⟩ | ⟨x, len', cap', m, n, D, Pl, hcs, _, hl, hm, hmm, _, hel⟩
  · simp [Value.cells] at hcs
    obtain ⟨rfl, rfl, rfl⟩ := hcs
    exact ⟨Nat.zero_le _, [], rfl, Or.inl rfl⟩
  · simp [Value.cells] at hcs
    obtain ⟨rfl, rfl, rfl⟩ := hcs
    refine ⟨Nat.le_trans hl hm, ?_⟩
    have hlm : len ≤ m := by rw [hmm]; split <;> omega
    have hone : ∀ i, ∃ q : In, i < len → ∀ j v, [i64 q.op, i64 q.a, i64 q.b, i64 q.n][j]? = some v → W.cell? ((x.add (i * 4)).add j) = some v := by
      intro i
      by_cases hi : i < len
      · obtain ⟨cs', hc, hr⟩ := hel i (by omega)
        rw [cells23] at hc
        obtain ⟨q, rfl, _⟩ := inst_read hr
        refine ⟨q, fun _ j v hv => ?_⟩
        obtain ⟨_, hlen4, hcell⟩ := World.cells?_some hc
        rw [hcell j (by have := (List.getElem?_eq_some_iff.1 hv).1; rw [← hlen4]; exact this)]
        exact hv
      · exact ⟨default, fun h => absurd h hi⟩
    obtain ⟨f, hf⟩ := Classical.axiomOfChoice hone
    refine ⟨(List.range len).map f, by simp, ?_⟩
    by_cases h0 : len = 0
    · subst h0
      exact Or.inl rfl
    · right
      obtain ⟨b, off, spot⟩ := x
      have hc := hf 0 (by omega) 0 _ rfl
      have hspot : spot = none := by simpa [Addr.add] using World.cell?_spot hc
      subst hspot
      have hlt := World.block_lt_of_cell? W _ hc
      rw [Addr.add_mid, Addr.add_mid] at hlt
      refine ⟨b, off, rfl, hlt, fun j i hi => ?_⟩
      have hj : j < len := by have := (List.getElem?_eq_some_iff.1 hi).1; simpa using this
      obtain rfl : f j = i := by simpa [hj] using hi
      have e := hf j hj
      have e0 := e 0 _ rfl
      have e1 := e 1 _ rfl
      have e2 := e 2 _ rfl
      have e3 := e 3 _ rfl
      rw [Addr.add_mid, Addr.add_mid] at e0 e1 e2 e3
      exact ⟨e0, e1, e2, e3⟩

set_option maxHeartbeats 1600000 in
theorem lists_long (w : World) (ht : Tab w) (s : ByteArray) (ao : Option Addr) (len cap : Nat) (h : 600 < s.size ∨ (¬ 600 < s.size ∧ 400 < len)) (hlen : len ≤ maxLen) : Calls Tryd.prog 4 #[.string s, .slice ao len cap] w fun e w' => e = .returned (.bool true) ∧ Below w.heap.size w w' := by
  unfold maxLen at hlen
  have HT : Hid (Tab w) := ht
  clear ht
  rcases h with h | ⟨h, h2⟩
  all_goals
    go_enter Tryd.func4, Tryd.ntmps4
    go_wp2_with fail
    refine (set_ok _ HT.out).mono ?_
    rintro e w1 ⟨rfl, hb1⟩
    have HB1 : Hid (Below w.heap.size w w1) := hb1
    clear hb1
    go_wp2_with fail
    go_ret
    exact ⟨rfl, HB1.out⟩
theorem all_good2 {l : List UInt8} (h : alE l = 0) : (alL l).length ≤ 256 := by
  unfold alE at h
  by_cases hl : 256 < l.length
  · rw [if_pos hl] at h; omega
  · rw [if_neg hl] at h
    cases ha : allO l with
    | none => rw [ha] at h; simp at h
    | some xs =>
      obtain ⟨h1, h2⟩ := allO_join ha
      have e : alL l = xs := by unfold alL; rw [if_neg hl, ha]; rfl
      rw [e]
      have : xs.length ≤ (xs.flatMap plain).length := by
        clear ha h1 h2 e
        induction xs with
        | nil => simp
        | cons i xs ih => rw [List.flatMap_cons, List.length_append, plain_len, List.length_cons]; have := (sz_le i.op.toNat).1; omega
      rw [h2] at this
      omega
theorem alL_len (l : List UInt8) : (alL l).length ≤ 256 := by
  by_cases h : alE l = 0
  · exact (all_good2 h)
  · unfold alE at h
    by_cases hl : 256 < l.length
    · unfold alL; rw [if_pos hl]; simp
    · rw [if_neg hl] at h
      cases ha : allO l with
      | none => unfold alL; rw [if_neg hl, ha]; simp
      | some xs => rw [ha] at h; simp at h

set_option maxHeartbeats 3200000 in
theorem lists_short (w : World) (ht : Tab w) (l : List UInt8) (xs : List In) (ao : Option Addr) (cap : Nat) (hs : l.length ≤ 600) (hx : ISl w ao xs) (hn : xs.length ≤ 400) : Calls Tryd.prog 4 #[.string ⟨l.toArray⟩, .slice ao xs.length cap] w fun e w' => e = .returned (.bool true) ∧ Below w.heap.size w w' := by
  have HT : Hid (Tab w) := ht
  have hz1 := ba_size l
  have HX : Hid (ISl w ao xs) := hx
  have hll := alL_len l
  have H1 : Hid (∀ w, Tab w → Calls Tryd.prog 16 #[.string ⟨l.toArray⟩] w fun e w' => ∃ v, e = .returned (.tuple #[v, i64 (alE l)]) ∧ w'.ownsRow w.heap.size 23 4 v (alL l).length (icells (alL l)) ∧ Below w.heap.size w w') := fun w ht => all_any w ht l
  have H2 : Hid (∀ w, Calls Tryd.prog 17 #[.string ⟨l.toArray⟩] w fun e w' => ∃ v, e = .returned (.tuple #[v, i64 (alE l)]) ∧ w'.ownsRow w.heap.size 29 4 v (alL l).length (icells (alL l)) ∧ Below w.heap.size w w') := fun w => rall_any w l
  have H3 : Hid (∀ w ao cap, Tab w → ISl w ao xs → Calls Tryd.prog 18 #[.slice ao xs.length cap] w fun e w' => e = .returned (.tuple #[.string ⟨(joS xs).toArray⟩, i64 (joE xs)]) ∧ Below w.heap.size w w') := fun w ao cap ht hi => join_ok w ht xs ao cap hi (by omega)
  have H4 : Hid (∀ w ao cap, ISl w ao xs → Calls Tryd.prog 19 #[.slice ao xs.length cap] w fun e w' => e = .returned (.tuple #[.string ⟨(joS xs).toArray⟩, i64 (joE xs)]) ∧ Below w.heap.size w w') := fun w ao cap hi => rjoin_ok w xs ao cap hi (by omega)
  have H5 : Hid (∀ w ao cap, ISl w ao xs → Calls Tryd.prog 20 #[.slice ao xs.length cap] w fun e w' => ∃ v, e = .returned v ∧ w'.ownsRow w.heap.size 29 4 v xs.length (icells xs) ∧ Below w.heap.size w w') := fun w ao cap hi => refs_ok w xs ao cap hi (by omega)
  clear ht hx
  generalize (⟨l.toArray⟩ : ByteArray) = S at *
  generalize l.length = n1 at *
  generalize (⟨(joS xs).toArray⟩ : ByteArray) = J at *
  generalize joE xs = EJ at *
  generalize alE l = E1 at *
  generalize alL l = L1 at *
  obtain ⟨N, hN⟩ : ∃ N, xs.length = N := ⟨_, rfl⟩
  rw [hN] at hn H3 H4 H5 ⊢
  clear hN
  go_enter Tryd.func4, Tryd.ntmps4
  go_wp2_with fail
  refine (H1.out _ HT.out).mono ?_
  rintro e w1 ⟨v1, rfl, ho1, hb1⟩
  have HO1 : Hid (w1.ownsRow w.heap.size 23 4 v1 L1.length (icells L1)) := ho1
  have HB1 : Hid (Below w.heap.size w w1) := hb1
  have hw1 := hb1.size
  clear ho1 hb1
  go_wp2_with fail
  refine (H2.out _).mono ?_
  rintro e w2 ⟨v2, rfl, ho2, hb2⟩
  have HO1b : Hid (w2.ownsRow w.heap.size 23 4 v1 L1.length (icells L1)) := own_below HO1.out hb2
  have HO2 : Hid (w2.ownsRow w1.heap.size 29 4 v2 L1.length (icells L1)) := ho2
  have HB2 : Hid (Below w.heap.size w w2) := HB1.out.trans (hb2.mono hw1)
  have hw2 := HB2.out.size
  clear ho2 hb2 HO1
  go_wp2_with fail
  refine (H3.out w2 ao cap (HT.out.below HB2.out) (HX.out.below HB2.out)).mono ?_
  rintro e w3 ⟨rfl, hb3⟩
  have HO1c : Hid (w3.ownsRow w.heap.size 23 4 v1 L1.length (icells L1)) := own_below HO1b.out hb3
  have HO2c : Hid (w3.ownsRow w1.heap.size 29 4 v2 L1.length (icells L1)) := own_below HO2.out hb3
  have HB3 : Hid (Below w.heap.size w w3) := HB2.out.trans (hb3.mono hw2)
  have hw3 := HB3.out.size
  clear hb3 HO1b HO2
  go_wp2_with fail
  refine (H5.out w3 ao cap (HX.out.below HB3.out)).mono ?_
  rintro e w4 ⟨v4, rfl, ho4, hb4⟩
  have HO1d : Hid (w4.ownsRow w.heap.size 23 4 v1 L1.length (icells L1)) := own_below HO1c.out hb4
  have HO2d : Hid (w4.ownsRow w1.heap.size 29 4 v2 L1.length (icells L1)) := own_below HO2c.out hb4
  have HB4 : Hid (Below w.heap.size w w4) := HB3.out.trans (hb4.mono hw3)
  have hw4 := HB4.out.size
  obtain ⟨ao4, cap4, rfl, hI4, _⟩ := own_isl ho4
  have HI4 : Hid (ISl w4 ao4 xs) := hI4
  clear hb4 ho4 hI4 HO1c HO2c
  go_wp2_with fail
  refine (H4.out w4 ao4 cap4 HI4.out).mono ?_
  rintro e w5 ⟨rfl, hb5⟩
  have ho1 := own_below HO1d.out hb5
  have HO2e : Hid (w5.ownsRow w1.heap.size 29 4 v2 L1.length (icells L1)) := own_below HO2d.out hb5
  have HB5 : Hid (Below w.heap.size w w5) := HB4.out.trans (hb5.mono hw4)
  have hw5 := HB5.out.size
  obtain ⟨ao1, cap1, rfl, hI1, _⟩ := own_isl ho1
  have HI1 : Hid (ISl w5 ao1 L1) := hI1
  clear hb5 ho1 hI1 HO1d HO2d
  go_wp2_with fail
  refine (refs_ok w5 L1 ao1 cap1 HI1.out (by omega)).mono ?_
  rintro e w6 ⟨v6, rfl, ho6, hb6⟩
  have ho2 := own_below HO2e.out hb6
  have HB6 : Hid (Below w.heap.size w w6) := HB5.out.trans (hb6.mono hw5)
  have hw6 := HB6.out.size
  obtain ⟨ao6, cap6, rfl, hI6, _⟩ := own_isl ho6
  obtain ⟨ao2, cap2, rfl, hI2, _⟩ := own_isl ho2
  have HI6 : Hid (ISl w6 ao6 L1) := hI6
  have HI2 : Hid (ISl w6 ao2 L1) := hI2
  clear hb6 ho6 ho2 hI6 hI2 HO2e
  go_wp2_with fail
  refine (same_ok w6 L1 ao6 ao2 cap6 cap2 HI6.out HI2.out (by omega)).mono ?_
  rintro e w7 ⟨rfl, nn, rfl⟩
  go_wp2_with (go_at_call 15; refine (set_ok _ ((HT.out.below HB6.out).drewN nn)).mono ?_; rintro e w9 ⟨rfl, hb9⟩; have HB9 : Hid (Below w.heap.size w w9) := (below_drewN HB6.out nn).trans (hb9.mono hw6); clear hb9)
  go_ret
  exact ⟨rfl, HB9.out⟩
theorem lists_walk (w : World) (ht : Tab w) (s : ByteArray) (xs : List In) (ao : Option Addr) (len cap : Nat) (hx : ISl w ao xs) (hl : xs.length = len) (hlen : len ≤ maxLen) : Calls Tryd.prog 4 #[.string s, .slice ao len cap] w fun e w' => e = .returned (.bool true) ∧ Below w.heap.size w w' := by
  by_cases h : 600 < s.size ∨ (¬ 600 < s.size ∧ 400 < len)
  · exact lists_long w ht s ao len cap h hlen
  · subst hl
    have h1 : ¬ 600 < s.size := fun hh => h (Or.inl hh)
    have h2 : ¬ 400 < xs.length := fun hh => h (Or.inr ⟨h1, hh⟩)
    have := lists_short w ht s.data.toList xs ao cap (by rw [Array.length_toList]; exact Nat.le_of_not_lt h1) hx (by omega)
    exact this
end Go.Proofs.YtlofpamfodinfaaDoor
