/- CodeBack's walk: what was written is read, with anything behind it; no statement is proved in this text. -/
import Derived.Test.YtlofpamfodinfaaDoorLaid
namespace Go.Proofs.YtlofpamfodinfaaDoor
open Go.ChangeShapes Go.WideShapes Go.ChangeAt Go.RowKit

theorem ba_append (p b : List UInt8) : (⟨p.toArray⟩ : ByteArray) ++ (⟨b.toArray⟩ : ByteArray) = ⟨(p ++ b).toArray⟩ := by
  apply ByteArray.ext
  simp
theorem ba_eta (s : ByteArray) : (⟨s.data.toList.toArray⟩ : ByteArray) = s := rfl
theorem szI_nat {k : Int} (h : 0 ≤ k ∧ k ≤ 20) : szI k = (sz k.toNat : Nat) := by unfold szI; rw [if_pos h]
theorem at_plain {i : In} (h : isI i = true) (b : List UInt8) : atI (plain i ++ b) 0 = i ∧ atN (plain i ++ b) 0 = (sz i.op.toNat : Nat) ∧ atE (plain i ++ b) 0 = 0 := by
  have hl := plain_len i
  have hz := (sz_le i.op.toNat).1
  have hc : (0 : Int) ≤ 0 ∧ (0 : Int) < (plain i ++ b).length := by rw [List.length_append]; omega
  have hh : hd ((plain i ++ b).drop (0 : Int).toNat) = some i := hd_plain h b
  unfold atI atN atE
  rw [if_pos hc, if_pos hc, if_pos hc, hh]
  refine ⟨rfl, ?_, rfl⟩
  simp

set_option maxHeartbeats 1600000 in
theorem back_yes (w : World) (ht : Tab w) (i : In) (s : ByteArray) (hs : s.size ≤ 300) (h : isI i = true) : Calls Tryd.prog 5 #[inV i, .string s] w fun e w' => e = .returned (.bool true) ∧ Below w.heap.size w w' := by
  obtain ⟨hA1, hA2, hA3⟩ := at_plain h s.data.toList
  have hl := plain_len i
  have hz := sz_le i.op.toNat
  have hop := (isI_out h).1
  obtain ⟨Z, hZ⟩ : ∃ Z, sz i.op.toNat = Z := ⟨_, rfl⟩
  rw [hZ] at hA2 hl hz
  have HS : Hid (∀ w, Tab w → Calls Tryd.prog 15 #[] w fun e w' => e = .returned (.bool true) ∧ Below w.heap.size w w') := fun w ht => set_ok w ht
  have HC : Hid (∀ w, Tab w → Calls Tryd.prog 8 #[inV i] w fun e w' => e = .returned (.tuple #[.string ⟨(plain i).toArray⟩, i64 0]) ∧ Below w.heap.size w w') := fun w ht => by
    have := bytes_any w ht i
    unfold btS btE at this
    rw [if_pos h, if_pos h] at this
    exact this
  have HA : Hid (∀ w, Tab w → Calls Tryd.prog 11 #[.string ⟨(plain i ++ s.data.toList).toArray⟩, i64 0] w fun e w' => e = .returned (atV i Z 0) ∧ Below w.heap.size w w') := fun w ht => by
    have := at_any w ht (plain i ++ s.data.toList) (by rw [List.length_append, hl, Array.length_toList]; have : s.data.size = s.size := rfl; unfold maxLen; omega) 0
    rw [hA1, hA2, hA3] at this
    exact this
  have HZ : Hid (∀ w, Tab w → Calls Tryd.prog 13 #[i64 i.op] w fun e w' => e = .returned (i64 Z) ∧ w' = w) := fun w ht => by
    have := size_ok w ht i.op
    rw [szI_nat hop, hZ] at this
    exact this
  have hcat : (⟨(plain i).toArray⟩ : ByteArray) ++ s = ⟨(plain i ++ s.data.toList).toArray⟩ := ba_append _ s.data.toList
  have hps : (⟨(plain i).toArray⟩ : ByteArray).size = Z := by rw [ba_size, hl]
  have hq := fun W => eqlI i i W
  rw [decide_eq_true rfl] at hq
  have HT : Hid (Tab w) := ht
  clear ht hA1 hA2 hA3 hl h hZ hop
  generalize (⟨(plain i ++ s.data.toList).toArray⟩ : ByteArray) = S at *
  generalize (⟨(plain i).toArray⟩ : ByteArray) = T at *
  obtain ⟨op, a, b, n⟩ := i
  simp only at HZ
  go_enter Tryd.func5, Tryd.ntmps5
  go_wp2_with fail
  refine (HC.out _ (HT.out.alloc _)).mono ?_
  rintro e w1 ⟨rfl, hb1⟩
  have HB1 : Hid (Below w.heap.size w w1) := (below_one w _).trans (hb1.mono (by simp))
  have HBX1 : Hid (Below (w.heap.size + 1) (w.alloc (.cells #[i64 op, i64 a, i64 b, i64 n] 23)) w1) := hb1.mono (by simp)
  have hz1 : w.heap.size < w1.heap.size := by have := hb1.size; simp at this; omega
  clear hb1
  go_wp2_with fail
  refine (HA.out _ (HT.out.below HB1.out)).mono ?_
  rintro e w2 ⟨rfl, hb2⟩
  have HB2 : Hid (Below w.heap.size w w2) := HB1.out.trans (hb2.mono (by omega))
  have HBX2 : Hid (Below (w.heap.size + 1) (w.alloc (.cells #[i64 op, i64 a, i64 b, i64 n] 23)) w2) := HBX1.out.trans (hb2.mono (by omega))
  have hz2 : w.heap.size < w2.heap.size := by have := hb2.size; omega
  obtain ⟨q0, q1, q2, q3⟩ := four_at (w := w) (H := w.heap.size) rfl (i64 op) (i64 a) (i64 b) (i64 n) 23 w2 HBX2.out
  have HT2 : Hid (Tab w2) := HT.out.below HB2.out
  clear hb2
  go_wp2_with (first | (go_at_call 13; refine (HZ.out _ (HT2.out.alloc _)).mono ?_; rintro e w3 ⟨rfl, rfl⟩) | (go_at_call 15; refine (HS.out _ (HT2.out.alloc _)).mono ?_; rintro e w3 ⟨rfl, hb3⟩; have HB3 : Hid (Below w.heap.size w w3) := (HB2.out.alloc (by omega) _).trans (hb3.mono (by simp <;> omega)); clear hb3))
  go_ret
  exact ⟨rfl, HB3.out⟩

set_option maxHeartbeats 1600000 in
theorem back_no (w : World) (ht : Tab w) (i : In) (s : ByteArray) (h : 300 < s.size ∨ isI i = false) : Calls Tryd.prog 5 #[inV i, .string s] w fun e w' => e = .returned (.bool true) ∧ Below w.heap.size w w' := by
  have HS : Hid (∀ w, Tab w → Calls Tryd.prog 15 #[] w fun e w' => e = .returned (.bool true) ∧ Below w.heap.size w w') := fun w ht => set_ok w ht
  have HT : Hid (Tab w) := ht
  clear ht
  by_cases hl : 300 < s.size
  · obtain ⟨op, a, b, n⟩ := i
    clear h
    go_enter Tryd.func5, Tryd.ntmps5
    go_wp2_with fail
    refine (HS.out _ (HT.out.alloc _)).mono ?_
    rintro e w1 ⟨rfl, hb1⟩
    have HB1 : Hid (Below w.heap.size w w1) := (below_one w _).trans (hb1.mono (by simp))
    clear hb1
    go_wp2_with fail
    go_ret
    exact ⟨rfl, HB1.out⟩
  · have hn : isI i = false := by rcases h with h | h; exact absurd h hl; exact h
    have HC : Hid (∀ w, Tab w → Calls Tryd.prog 8 #[inV i] w fun e w' => e = .returned (.tuple #[.string ⟨#[]⟩, i64 4]) ∧ Below w.heap.size w w') := fun w ht => bytes_no w ht i hn
    clear h hn
    obtain ⟨op, a, b, n⟩ := i
    go_enter Tryd.func5, Tryd.ntmps5
    go_wp2_with fail
    refine (HC.out _ (HT.out.alloc _)).mono ?_
    rintro e w1 ⟨rfl, hb1⟩
    have HB1 : Hid (Below w.heap.size w w1) := (below_one w _).trans (hb1.mono (by simp))
    clear hb1
    have HT1 : Hid (Tab w1) := HT.out.below HB1.out
    have hz1 := HB1.out.size
    go_wp2_with (go_at_call 15; refine (HS.out _ HT1.out).mono ?_; rintro e w3 ⟨rfl, hb3⟩; have HB3 : Hid (Below w.heap.size w w3) := HB1.out.trans (hb3.mono hz1); clear hb3)
    go_ret
    exact ⟨rfl, HB3.out⟩
theorem back_walk (w : World) (ht : Tab w) (i : In) (s : ByteArray) : Calls Tryd.prog 5 #[inV i, .string s] w fun e w' => e = .returned (.bool true) ∧ Below w.heap.size w w' := by
  by_cases h : 300 < s.size ∨ isI i = false
  · exact back_no w ht i s h
  · exact back_yes w ht i s (by omega) (by simp at h; exact h.2)
end Go.Proofs.YtlofpamfodinfaaDoor
