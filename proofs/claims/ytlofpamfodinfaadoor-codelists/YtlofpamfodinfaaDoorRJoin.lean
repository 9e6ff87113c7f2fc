/- The document's Join: its contract; no statement is proved in this text. -/
import Derived.Test.YtlofpamfodinfaaDoorRAll
namespace Go.Proofs.YtlofpamfodinfaaDoor
open Go.ChangeShapes Go.WideShapes Go.ChangeAt Go.RowKit

theorem flat_take_le (xs : List In) (k : Nat) : ((xs.take k).flatMap plain).length ≤ (xs.flatMap plain).length := by
  conv => rhs; rw [← List.take_append_drop k xs, List.flatMap_append, List.length_append]
  omega

set_option maxHeartbeats 1600000 in
theorem rjoin_ok (w : World) (xs : List In) (ao : Option Addr) (cap : Nat) (hs : ISl w ao xs) (hl : xs.length ≤ 1000) :
    Calls Tryd.prog 19 #[.slice ao xs.length cap] w fun e w' => e = .returned (.tuple #[.string ⟨(joS xs).toArray⟩, i64 (joE xs)]) ∧ Below w.heap.size w w' := by
  have HS : Hid (ISl w ao xs) := hs
  obtain ⟨N, hN⟩ : ∃ N, xs.length = N := ⟨_, rfl⟩
  have HN : Hid (xs.length = N) := hN
  rw [hN] at hl ⊢
  have HFL : Hid (∀ k, ((xs.take k).flatMap plain).length ≤ 4 * (xs.take k).length) := fun k => flat_len _
  clear hs hN
  go_enter Tryd.func19, Tryd.ntmps19
  go_wp2_with fail
  go_loopw [11] (fun i wr => ∃ (k : Nat), i = i64 k ∧ k ≤ N ∧ okL (xs.take k) = true ∧ Below w.heap.size w wr) (fun i _ => N - (intOf i).toNat)
  case atStart => exact ⟨0, rfl, by omega, rfl, Below.refl _ _⟩
  case round =>
    obtain ⟨k, rfl, hk, hok, hb⟩ := hrel
    have HB : Hid (Below w.heap.size w wr) := hb
    have hz := hb.size
    by_cases hkN : k < N
    · have hkx : k < xs.length := by rw [HN.out]; exact hkN
      obtain ⟨b, off, rfl, hbl, c0, c1, c2, c3⟩ := (HS.out.below hb).at hkx
      have HC : Hid (∀ w, Calls Tryd.prog 24 #[inV xs[k]] w fun e w' => e = .returned (.bool (isI xs[k])) ∧ Below w.heap.size w w') := fun w => is_ok w _
      have HK2 : Hid (isI xs[k] = true → okL (xs.take (k + 1)) = true) := fun h => ok_take_next hkx hok h
      have HJ : Hid (isI xs[k] = false → joE xs = 4 ∧ joS xs = []) := fun h => jo_bad (ok_not hkx h)
      clear hok hb
      generalize isI xs[k] = B at *
      generalize xs[k] = q at *
      obtain ⟨op, a, b2, n⟩ := q
      go_wp2_with fail
      refine (HC.out _).mono ?_
      rintro e w1 ⟨rfl, hb1⟩
      have HB1 : Hid (Below w.heap.size w w1) := (HB.out.alloc hz _).trans (hb1.mono (by simp <;> omega))
      clear hb1
      cases B
      · have HJ2 : Hid (joE xs = 4 ∧ joS xs = []) := HJ.out rfl
        go_wp2_with fail
        go_ret2
        exact ⟨by rw [HJ2.out.1, HJ2.out.2]; rfl, HB1.out⟩
      · have HK3 : Hid (okL (xs.take (k + 1)) = true) := HK2.out rfl
        go_wp2_with fail
        exact ⟨⟨k + 1, by go_num, by omega, HK3.out, HB1.out⟩, by simp [intOf]; omega⟩
    · obtain rfl : k = N := by omega
      have hall : xs.take k = xs := List.take_of_length_le (by rw [HN.out]; exact Nat.le_refl _)
      rw [hall] at hok
      have HK : Hid (okL xs = true) := hok
      clear hall hok hb
      generalize wr = w1 at *
      go_wp2_with fail
      go_loopw [4, 21] (fun v i wr => ∃ (j m : Nat), i = i64 j ∧ j ≤ k ∧ m = ((xs.take j).flatMap plain).length ∧ m ≤ 256 ∧ v = .string ⟨((xs.take j).flatMap plain).toArray⟩ ∧ Below w.heap.size w wr) (fun _ i _ => k - (intOf i).toNat)
      case atStart => exact ⟨0, 0, rfl, by omega, by simp, by omega, rfl, HB.out⟩
      case round =>
        obtain ⟨j, m, rfl, hj, hm, hm2, rfl, hb⟩ := hrel
        have HB2 : Hid (Below w.heap.size w wr) := hb
        have hz2 := hb.size
        by_cases hjN : j < k
        · have hjx : j < xs.length := by rw [HN.out]; exact hjN
          obtain ⟨b, off, rfl, hbl, c0, c1, c2, c3⟩ := (HS.out.below hb).at hjx
          have hI : isI xs[j] = true := by have := HK.out; unfold okL at this; rw [List.all_eq_true] at this; exact this _ (List.getElem_mem hjx)
          have HC : Hid (∀ w, Calls Tryd.prog 25 #[inV xs[j]] w fun e w' => e = .returned (.string ⟨(plain xs[j]).toArray⟩) ∧ Below w.heap.size w w') := fun w => plain_ok w _ hI
          have HF : Hid ((xs.take (j + 1)).flatMap plain = (xs.take j).flatMap plain ++ plain xs[j]) := take_flat xs j hjx
          have hcat := ba_append ((xs.take j).flatMap plain) (plain xs[j])
          rw [← HF.out] at hcat
          have hsz := ba_size ((xs.take (j + 1)).flatMap plain)
          obtain ⟨M, hM⟩ : ∃ M, ((xs.take (j + 1)).flatMap plain).length = M := ⟨_, rfl⟩
          have HM : Hid (((xs.take (j + 1)).flatMap plain).length = M) := hM
          have hMle : M ≤ 4 * (j + 1) := by rw [← hM]; refine Nat.le_trans (HFL.out (j + 1)) ?_; rw [List.length_take]; omega
          rw [hM] at hsz
          have HJ : Hid (256 < M → joE xs = 2 ∧ joS xs = []) := fun h => jo_long HK.out (by have := flat_take_le xs (j + 1); omega)
          have hs0 : (⟨((xs.take j).flatMap plain).toArray⟩ : ByteArray).size ≤ 256 := by rw [ba_size]; omega
          have hs1 : (⟨(plain xs[j]).toArray⟩ : ByteArray).size ≤ 4 := by rw [ba_size, plain_len]; exact (sz_le _).2
          clear hM hI hb hm
          obtain ⟨F1, hF1⟩ : ∃ F1 : ByteArray, (⟨((xs.take (j + 1)).flatMap plain).toArray⟩ : ByteArray) = F1 := ⟨_, rfl⟩
          have HF1 : Hid ((⟨((xs.take (j + 1)).flatMap plain).toArray⟩ : ByteArray) = F1) := hF1
          rw [hF1] at hcat hsz
          clear hF1
          generalize (⟨((xs.take j).flatMap plain).toArray⟩ : ByteArray) = F0 at *
          generalize (⟨(plain xs[j]).toArray⟩ : ByteArray) = PP at *
          generalize xs[j] = q at *
          obtain ⟨op, a, b2, n⟩ := q
          by_cases hlong : 256 < M
          · have HJ2 : Hid (joE xs = 2 ∧ joS xs = []) := HJ.out hlong
            go_wp2_with (go_at_call 25; refine (HC.out _).mono ?_; rintro e w2 ⟨rfl, hb2⟩; have HB3 : Hid (Below w.heap.size w w2) := (HB2.out.alloc hz2 _).trans (hb2.mono (by simp <;> omega)); clear hb2)
            go_ret2
            exact ⟨by rw [HJ2.out.1, HJ2.out.2]; rfl, HB3.out⟩
          · go_wp2_with (go_at_call 25; refine (HC.out _).mono ?_; rintro e w2 ⟨rfl, hb2⟩; have HB3 : Hid (Below w.heap.size w w2) := (HB2.out.alloc hz2 _).trans (hb2.mono (by simp <;> omega)); clear hb2)
            exact ⟨⟨j + 1, M, by go_num, by omega, HM.out.symm, by omega, by rw [HF1.out], HB3.out⟩, by simp [intOf]; omega⟩
        · obtain rfl : j = k := by omega
          have hall : xs.take j = xs := List.take_of_length_le (by rw [HN.out]; exact Nat.le_refl _)
          rw [hall] at hm ⊢
          have HJ : Hid (joE xs = 0 ∧ joS xs = xs.flatMap plain) := jo_ok HK.out (by omega)
          clear hall hb hm
          generalize xs.flatMap plain = F at *
          go_wp2_with fail
          go_ret2
          exact ⟨by rw [HJ.out.1, HJ.out.2]; rfl, HB2.out⟩
end Go.Proofs.YtlofpamfodinfaaDoor
