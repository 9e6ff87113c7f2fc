/- CodeOne's walk: what is read is written as it was; no statement is proved in this text. -/
import Derived.Test.YtlofpamfodinfaaDoorBackWalk
namespace Go.Proofs.YtlofpamfodinfaaDoor
open Go.ChangeShapes Go.WideShapes Go.ChangeAt Go.RowKit

theorem at_good {l : List UInt8} {p : Int} (h : atE l p = 0) : ∃ j i : _, p = ((j : Nat) : Int) ∧ j + sz (i : In).op.toNat ≤ l.length ∧ isI i = true ∧ atI l p = i ∧ atN l p = ((j + sz i.op.toNat : Nat) : Int) ∧ plain i = (l.drop j).take (sz i.op.toNat) := by
  unfold atE at h
  by_cases hp : 0 ≤ p ∧ p < l.length
  · rw [if_pos hp] at h
    obtain ⟨j, rfl⟩ := Int.eq_ofNat_of_zero_le hp.1
    rw [Int.toNat_natCast] at h
    cases hh : hd (l.drop j) with
    | none => rw [hh] at h; simp at h
    | some i =>
      obtain ⟨h1, h2, h3⟩ := hd_some hh
      rw [List.length_drop] at h2
      refine ⟨j, i, rfl, by omega, h1, ?_, ?_, h3⟩
      · unfold atI; rw [if_pos hp, Int.toNat_natCast, hh]; rfl
      · unfold atN; rw [if_pos hp, Int.toNat_natCast, hh]; simp
  · rw [if_neg hp] at h; omega
theorem all_good {l : List UInt8} (h : alE l = 0) : l.length ≤ 256 ∧ joE (alL l) = 0 ∧ joS (alL l) = l ∧ (alL l).length ≤ 256 := by
  unfold alE at h
  by_cases hl : 256 < l.length
  · rw [if_pos hl] at h; omega
  · rw [if_neg hl] at h
    cases ha : allO l with
    | none => rw [ha] at h; simp at h
    | some xs =>
      obtain ⟨h1, h2⟩ := allO_join ha
      have e : alL l = xs := by unfold alL; rw [if_neg hl, ha]; rfl
      have hok : okL xs = true := by unfold okL; rw [List.all_eq_true]; exact h1
      obtain ⟨j1, j2⟩ := jo_ok hok (by rw [h2]; exact hl)
      rw [e, j2, h2]
      refine ⟨by omega, j1, rfl, ?_⟩
      have : xs.length ≤ (xs.flatMap plain).length := by
        clear ha h1 h2 e hok j1 j2
        induction xs with
        | nil => simp
        | cons i xs ih => rw [List.flatMap_cons, List.length_append, plain_len, List.length_cons]; have := (sz_le i.op.toNat).1; omega
      rw [h2] at this
      omega

set_option maxHeartbeats 1600000 in
theorem one_walk (w : World) (ht : Tab w) (s : ByteArray) (p : Int) : Calls Tryd.prog 6 #[.string s, i64 p] w fun e w' => e = .returned (.bool true) ∧ Below w.heap.size w w' := by
  have HT : Hid (Tab w) := ht
  clear ht
  by_cases hl : 600 < s.size
  · go_enter Tryd.func6, Tryd.ntmps6
    go_wp2_with fail
    refine (set_ok _ HT.out).mono ?_
    rintro e w1 ⟨rfl, hb1⟩
    have HB1 : Hid (Below w.heap.size w w1) := hb1
    clear hb1
    go_wp2_with fail
    go_ret
    exact ⟨rfl, HB1.out⟩
  · obtain ⟨l, rfl⟩ : ∃ l : List UInt8, s = ⟨l.toArray⟩ := ⟨s.data.toList, rfl⟩
    rw [ba_size] at hl
    have hll : l.length ≤ 600 := by omega
    have hsz := ba_size l
    have HA : Hid (∀ w, Tab w → Calls Tryd.prog 11 #[.string ⟨l.toArray⟩, i64 p] w fun e w' => e = .returned (atV (atI l p) (atN l p) (atE l p)) ∧ Below w.heap.size w w') := fun w ht => at_any w ht l (by unfold maxLen; omega) p
    have HL : Hid (∀ w, Tab w → Calls Tryd.prog 16 #[.string ⟨l.toArray⟩] w fun e w' => ∃ v, e = .returned (.tuple #[v, i64 (alE l)]) ∧ w'.ownsRow w.heap.size 23 4 v (alL l).length (icells (alL l)) ∧ Below w.heap.size w w') := fun w ht => all_any w ht l
    have HJ : Hid (alE l = 0 → l.length ≤ 256 ∧ joE (alL l) = 0 ∧ joS (alL l) = l ∧ (alL l).length ≤ 256) := all_good
    have HK : Hid (alE l = 0 → ∀ w ao cap, Tab w → ISl w ao (alL l) → Calls Tryd.prog 18 #[.slice ao (alL l).length cap] w fun e w' => e = .returned (.tuple #[.string ⟨l.toArray⟩, i64 0]) ∧ Below w.heap.size w w') := fun h w ao cap ht hi => by
      obtain ⟨_, j1, j2, j3⟩ := HJ.out h
      have := join_ok w ht (alL l) ao cap hi (by omega)
      rw [j1, j2] at this
      exact this
    clear hl HJ
    by_cases hE : atE l p = 0
    · obtain ⟨j, i, rfl, hj, hI, e1, e2, e3⟩ := at_good hE
      have hsl := fun W => sl_lh W ⟨l.toArray⟩ j (sz i.op.toNat) (by rw [ba_size]; exact hj)
      rw [ba_take, ← e3] at hsl
      have HC : Hid (∀ w, Tab w → Calls Tryd.prog 8 #[inV i] w fun e w' => e = .returned (.tuple #[.string ⟨(plain i).toArray⟩, i64 0]) ∧ Below w.heap.size w w') := fun w ht => by
        have := bytes_any w ht i
        unfold btS btE at this
        rw [if_pos hI, if_pos hI] at this
        exact this
      have HA2 : Hid (∀ w, Tab w → Calls Tryd.prog 11 #[.string ⟨l.toArray⟩, i64 j] w fun e w' => e = .returned (atV i ((j : Int) + (sz i.op.toNat : Nat)) 0) ∧ Below w.heap.size w w') := fun w ht => by
        have := HA.out w ht
        rw [e1, e2, hE] at this
        simpa using this
      clear hE e1 e2 e3 hI HA
      generalize sz i.op.toNat = Z at *
      generalize (⟨(plain i).toArray⟩ : ByteArray) = P at *
      generalize (⟨l.toArray⟩ : ByteArray) = S at *
      obtain ⟨op, a, b, n⟩ := i
      have hjI : (j : Int) + (Z : Int) ≤ (l.length : Int) := by omega
      go_enter Tryd.func6, Tryd.ntmps6
      go_wp2_with fail
      refine (HA2.out _ HT.out).mono ?_
      rintro e w1 ⟨rfl, hb1⟩
      have HB1 : Hid (Below w.heap.size w w1) := hb1
      have HT1 : Hid (Tab w1) := HT.out.below hb1
      have hz1 := hb1.size
      clear hb1
      go_wp2_with fail
      refine (HC.out _ (HT1.out.alloc _)).mono ?_
      rintro e w2 ⟨rfl, hb2⟩
      have HB2 : Hid (Below w.heap.size w w2) := (HB1.out.alloc hz1 _).trans (hb2.mono (by simp <;> omega))
      have HT2 : Hid (Tab w2) := HT.out.below HB2.out
      clear hb2
      go_wp2_with fail
      refine (HL.out _ HT2.out).mono ?_
      rintro e w3 ⟨v, he, ho, hb3⟩
      have HB3 : Hid (Below w.heap.size w w3) := HB2.out.trans (hb3.mono HB2.out.size)
      have HT3 : Hid (Tab w3) := HT.out.below HB3.out
      have hz3 := HB3.out.size
      obtain ⟨ao, cap, rfl, hIs, _⟩ := own_isl ho
      have HIS : Hid (ISl w3 ao (alL l)) := hIs
      clear hb3 ho hIs
      by_cases hE2 : alE l = 0
      · have HK2 : Hid (∀ w ao cap, Tab w → ISl w ao (alL l) → Calls Tryd.prog 18 #[.slice ao (alL l).length cap] w fun e w' => e = .returned (.tuple #[.string S, i64 0]) ∧ Below w.heap.size w w') := HK.out hE2
        rw [hE2] at he
        subst he
        clear hE2
        generalize (alL l).length = N at *
        go_wp2_with fail
        refine (HK2.out w3 ao cap HT3.out HIS.out).mono ?_
        rintro e w4 ⟨rfl, hb4⟩
        have HB4 : Hid (Below w.heap.size w w4) := HB3.out.trans (hb4.mono hz3)
        have hz4 := HB4.out.size
        clear hb4
        go_wp2_with fail
        refine (set_ok _ (HT.out.below HB4.out)).mono ?_
        rintro e w5 ⟨rfl, hb5⟩
        have HB5 : Hid (Below w.heap.size w w5) := HB4.out.trans (hb5.mono hz4)
        clear hb5
        go_wp2_with fail
        go_ret
        exact ⟨rfl, HB5.out⟩
      · have hE2b : (alE l == 0) = false := by simpa using hE2
        clear hE2
        generalize alE l = F at *
        subst he
        go_wp2_with fail
        refine (set_ok _ HT3.out).mono ?_
        rintro e w5 ⟨rfl, hb5⟩
        have HB5 : Hid (Below w.heap.size w w5) := HB3.out.trans (hb5.mono hz3)
        clear hb5
        go_wp2_with fail
        go_ret
        exact ⟨rfl, HB5.out⟩
    · have HA2 : Hid (∀ w, Tab w → Calls Tryd.prog 11 #[.string ⟨l.toArray⟩, i64 p] w fun e w' => e = .returned (atV (atI l p) (atN l p) (atE l p)) ∧ Below w.heap.size w w') := HA.out
      have hEb : (atE l p == 0) = false := by simpa using hE
      clear hE HA
      generalize atE l p = E at *
      generalize atN l p = M at *
      generalize atI l p = i at *
      obtain ⟨op, a, b, n⟩ := i
      generalize (⟨l.toArray⟩ : ByteArray) = S at *
      go_enter Tryd.func6, Tryd.ntmps6
      go_wp2_with fail
      refine (HA2.out _ HT.out).mono ?_
      rintro e w1 ⟨rfl, hb1⟩
      have HB1 : Hid (Below w.heap.size w w1) := hb1
      have HT1 : Hid (Tab w1) := HT.out.below hb1
      have hz1 := hb1.size
      clear hb1
      go_wp2_with fail
      have HB2 : Hid (Below w.heap.size w (w1.alloc (.cells #[i64 op, i64 a, i64 b, i64 n] 23))) := HB1.out.alloc hz1 _
      have HT2 : Hid (Tab (w1.alloc (.cells #[i64 op, i64 a, i64 b, i64 n] 23))) := HT1.out.alloc _
      generalize w1.alloc (.cells #[i64 op, i64 a, i64 b, i64 n] 23) = w2 at *
      refine (HL.out _ HT2.out).mono ?_
      rintro e w3 ⟨v, he, ho, hb3⟩
      have HB3 : Hid (Below w.heap.size w w3) := HB2.out.trans (hb3.mono HB2.out.size)
      have HT3 : Hid (Tab w3) := HT.out.below HB3.out
      have hz3 := HB3.out.size
      obtain ⟨ao, cap, rfl, hIs, _⟩ := own_isl ho
      have HIS : Hid (ISl w3 ao (alL l)) := hIs
      clear hb3 ho hIs
      by_cases hE2 : alE l = 0
      · have HK2 : Hid (∀ w ao cap, Tab w → ISl w ao (alL l) → Calls Tryd.prog 18 #[.slice ao (alL l).length cap] w fun e w' => e = .returned (.tuple #[.string S, i64 0]) ∧ Below w.heap.size w w') := HK.out hE2
        rw [hE2] at he
        subst he
        clear hE2
        generalize (alL l).length = N at *
        go_wp2_with fail
        refine (HK2.out w3 ao cap HT3.out HIS.out).mono ?_
        rintro e w4 ⟨rfl, hb4⟩
        have HB4 : Hid (Below w.heap.size w w4) := HB3.out.trans (hb4.mono hz3)
        have hz4 := HB4.out.size
        clear hb4
        go_wp2_with fail
        refine (set_ok _ (HT.out.below HB4.out)).mono ?_
        rintro e w5 ⟨rfl, hb5⟩
        have HB5 : Hid (Below w.heap.size w w5) := HB4.out.trans (hb5.mono hz4)
        clear hb5
        go_wp2_with fail
        go_ret
        exact ⟨rfl, HB5.out⟩
      · have hE2b : (alE l == 0) = false := by simpa using hE2
        clear hE2
        generalize alE l = F at *
        subst he
        go_wp2_with fail
        refine (set_ok _ HT3.out).mono ?_
        rintro e w5 ⟨rfl, hb5⟩
        have HB5 : Hid (Below w.heap.size w w5) := HB3.out.trans (hb5.mono hz3)
        clear hb5
        go_wp2_with fail
        go_ret
        exact ⟨rfl, HB5.out⟩
end Go.Proofs.YtlofpamfodinfaaDoor
