/- bits.Put and imagoref01's Cut and Put: their contracts; no statement is proved in this text. -/
import Derived.Test.YtjfgeledmlkppaaDoorLaid
import Derived.Test.YtjfgeledmlkppaaDoorBitwise
namespace Go.Proofs.YtjfgeledmlkppaaDoor
open Go.ChangeShapes Go.WideShapes Go.ChangeAt Go.RowKit

theorem wf_nat (d : Nat) (h : d ≤ 64) : (Lit.int .i64 (d : Int)).wf = true := by
  simp [Lit.wf, IntKind.min, IntKind.max, IntKind.signed, IntKind.bits]; omega

set_option maxHeartbeats 400000 in
theorem put_no (w : World) (n f d v : Int) (hf : (Lit.int .i64 f).wf = true) (hd : (Lit.int .i64 d).wf = true) (h : isF f d = false) : Calls Tryd.prog 11 #[.int .u64 n, .int .i64 f, .int .i64 d, .int .u32 v] w fun e w' => e = .returned (.tuple #[.int .u64 0, .int .i64 1]) ∧ w' = w := by
  go_enter Tryd.func11, Tryd.ntmps11
  go_wp2_with (go_at_call 29; refine (isField_ok _ _ _ hf hd).mono ?_; rintro e w1 ⟨rfl, rfl⟩)
  go_ret2
  exact ⟨rfl, rfl⟩
set_option maxHeartbeats 400000 in
theorem put_long (w : World) (n f d v : Nat) (hf : f + d ≤ 64) (hd1 : 1 ≤ d) (hd : d ≤ 32) (hv : v < 4294967296) (hl : decide (v < 2 ^ d) = false) : Calls Tryd.prog 11 #[.int .u64 n, .int .i64 f, .int .i64 d, .int .u32 v] w fun e w' => e = .returned (.tuple #[.int .u64 0, .int .i64 2]) ∧ w' = w := by
  have h : isF f d = true := by simp [isF]; omega
  go_enter Tryd.func11, Tryd.ntmps11
  go_wp2_with (first | (go_at_call 29; refine (isField_ok _ _ _ (wf_nat f (by omega)) (wf_nat d (by omega))).mono ?_; rintro e w1 ⟨rfl, rfl⟩) | (go_at_call 33; refine (fits_ok _ v d hv hd).mono ?_; rintro e w1 ⟨rfl, rfl⟩))
  go_ret2
  exact ⟨rfl, rfl⟩
set_option maxHeartbeats 400000 in
theorem put_ok (w : World) (n f d v : Nat) (hn : n < 18446744073709551616) (hf : f + d ≤ 64) (hd1 : 1 ≤ d) (hd : d ≤ 32) (hv : v < 4294967296) (hl : decide (v < 2 ^ d) = true) : Calls Tryd.prog 11 #[.int .u64 n, .int .i64 f, .int .i64 d, .int .u32 v] w fun e w' => e = .returned (.tuple #[.int .u64 (putR n f d v : Nat), .int .i64 0]) ∧ ∃ m, w' = w.drewN m := by
  have h : isF f d = true := by simp [isF]; omega
  go_enter Tryd.func11, Tryd.ntmps11
  go_wp2_with (first | (go_at_call 29; refine (isField_ok _ _ _ (wf_nat f (by omega)) (wf_nat d (by omega))).mono ?_; rintro e w1 ⟨rfl, rfl⟩) | (go_at_call 33; refine (fits_ok _ v d hv hd).mono ?_; rintro e w1 ⟨rfl, rfl⟩))
  go_quiet ((go_at_call 30; exact Calls.quiet_of_same (mask_ok _ d hd)))
  go_wp2
  go_ret2
  exact ⟨congrArg (fun n => Ending.returned (Value.tuple #[Value.int .u64 n, Value.int .i64 0])) (put_num n f d v hn hf (by simpa using hl)), nq, rfl⟩

theorem isF_nat {f d : Int} (h : isF f d = true) : ∃ k j : Nat, f = k ∧ d = j ∧ 1 ≤ j ∧ j ≤ 32 ∧ k + j ≤ 64 := by
  simp [isF] at h
  exact ⟨f.toNat, d.toNat, by omega, by omega, by omega, by omega, by omega⟩

def ctE (f d : Int) : Int := if isF f d = true then 0 else 1
def ctV (n : Nat) (f d : Int) : Nat := if isF f d = true then n / 2 ^ f.toNat % 2 ^ d.toNat else 0
def ptE (f d : Int) (v : Nat) : Int := if isF f d = true then (if v < 2 ^ d.toNat then 0 else 2) else 1
def ptV (n : Nat) (f d : Int) (v : Nat) : Nat := if isF f d = true ∧ v < 2 ^ d.toNat then putR n f.toNat d.toNat v else 0

theorem drewN_zero (w : World) : w = w.drewN 0 := rfl

theorem cut_any (w : World) (n : Nat) (f d : Int) (hn : n < 18446744073709551616) (hf : (Lit.int .i64 f).wf = true) (hd : (Lit.int .i64 d).wf = true) :
    Calls Tryd.prog 9 #[.int .u64 n, .int .i64 f, .int .i64 d] w fun e w' => e = .returned (.tuple #[.int .u32 (ctV n f d : Nat), .int .i64 (ctE f d)]) ∧ ∃ m, w' = w.drewN m := by
  unfold ctV ctE
  by_cases h : isF f d = true
  · rw [if_pos h, if_pos h]
    obtain ⟨k, j, rfl, rfl, h1, h2, h3⟩ := isF_nat h
    exact cut_ok w n k j hn h3 h1 h2
  · rw [if_neg h, if_neg h]
    refine (cut_no w n f d hf hd (by simpa using h)).mono ?_
    rintro e w' ⟨rfl, rfl⟩
    exact ⟨rfl, 0, drewN_zero _⟩

theorem put_any (w : World) (n : Nat) (f d : Int) (v : Nat) (hn : n < 18446744073709551616) (hf : (Lit.int .i64 f).wf = true) (hd : (Lit.int .i64 d).wf = true) (hv : v < 4294967296) :
    Calls Tryd.prog 11 #[.int .u64 n, .int .i64 f, .int .i64 d, .int .u32 v] w fun e w' => e = .returned (.tuple #[.int .u64 (ptV n f d v : Nat), .int .i64 (ptE f d v)]) ∧ ∃ m, w' = w.drewN m := by
  unfold ptV ptE
  by_cases h : isF f d = true
  · rw [if_pos h]
    obtain ⟨k, j, rfl, rfl, h1, h2, h3⟩ := isF_nat h
    by_cases hl : v < 2 ^ j
    · rw [if_pos ⟨h, by simpa using hl⟩, if_pos (by simpa using hl)]
      exact put_ok w n k j v hn h3 h1 h2 hv (by simpa using hl)
    · rw [if_neg (fun e => hl (by simpa using e.2)), if_neg (by simpa using hl)]
      refine (put_long w n k j v h3 h1 h2 hv (by simpa using hl)).mono ?_
      rintro e w' ⟨rfl, rfl⟩
      exact ⟨rfl, 0, drewN_zero _⟩
  · rw [if_neg h, if_neg (fun e => h e.1)]
    refine (put_no w n f d v hf hd (by simpa using h)).mono ?_
    rintro e w' ⟨rfl, rfl⟩
    exact ⟨rfl, 0, drewN_zero _⟩

set_option maxHeartbeats 400000 in
theorem rcut_no (w : World) (n f d : Int) (hf : (Lit.int .i64 f).wf = true) (hd : (Lit.int .i64 d).wf = true) (h : isF f d = false) : Calls Tryd.prog 10 #[.int .u64 n, .int .i64 f, .int .i64 d] w fun e w' => e = .returned (.tuple #[.int .u32 0, .int .i64 1]) ∧ w' = w := by
  go_enter Tryd.func10, Tryd.ntmps10
  go_wp2_with (go_at_call 31; refine (rfield_ok _ _ _ hf hd).mono ?_; rintro e w1 ⟨rfl, rfl⟩)
  go_ret2
  exact ⟨rfl, rfl⟩

set_option maxHeartbeats 800000 in
theorem rcut_ok (w : World) (n f d V : Nat) (hV : n / 2 ^ f % 2 ^ d = V) (hn : n < 18446744073709551616) (hf : f + d ≤ 64) (hd1 : 1 ≤ d) (hd : d ≤ 32) : Calls Tryd.prog 10 #[.int .u64 n, .int .i64 f, .int .i64 d] w fun e w' => e = .returned (.tuple #[.int .u32 V, .int .i64 0]) ∧ w' = w := by
  have HV : Hid (n / 2 ^ f % 2 ^ d = V) := hV
  clear hV
  have h : isF f d = true := by simp [isF]; omega
  obtain ⟨R, hR⟩ : ∃ R, n / 2 ^ f = R := ⟨_, rfl⟩
  have HR : Hid (n / 2 ^ f = R) := hR
  clear hR
  go_enter Tryd.func10, Tryd.ntmps10
  go_wp2_with (go_at_call 31; refine (rfield_ok _ _ _ (wf_nat f (by omega)) (wf_nat d (by omega))).mono ?_; rintro e w1 ⟨rfl, rfl⟩)
  go_loop [8, 9] (fun a i => ∃ k : Nat, k ≤ d ∧ i = .int .i64 k ∧ a = .int .u64 (R % 2 ^ k : Nat)) (fun _ i => d - (intOf i).toNat)
  case atStart => exact ⟨0, by omega, rfl, by simp [Nat.mod_one]⟩
  case round =>
    obtain ⟨k, hk, rfl, rfl⟩ := hrel
    have hs := bitN_sum R k
    have hb1 : bitN R k ≤ 1 := by unfold bitN; omega
    have hb2 : bitN n (f + k) = bitN R k := by rw [← HR.out, bitN_div]
    have hp : 2 ^ k ≤ 2 ^ 32 := Nat.pow_le_pow_right (by omega) (by omega)
    have hm : R % 2 ^ k < 2 ^ k := Nat.mod_lt _ (Nat.two_pow_pos _)
    have hmul : bitN R k * 2 ^ k ≤ 2 ^ k := by
      have := Nat.mul_le_mul_right (2 ^ k) hb1
      omega
    have HS : Hid (R % 2 ^ (k + 1) = R % 2 ^ k + bitN R k * 2 ^ k) := hs
    have HB : Hid (bitN n (f + k) = bitN R k) := hb2
    clear hs hb2
    generalize hss : R % 2 ^ k = s at *
    have HS2 : Hid (R % 2 ^ k = s) := hss
    clear hss
    by_cases hkd : k < d
    · go_wp2_with fail
      rw [show ((f : Int) + (k : Int)) = ((f + k : Nat) : Int) by omega]
      refine (bit_ok _ n (f + k) hn (by omega)).mono ?_
      rintro e w2 ⟨he, rfl⟩
      rw [HB.out] at he
      subst he
      go_wp2_with fail
      refine (power_ok _ k (by omega)).mono ?_
      rintro e w3 ⟨rfl, rfl⟩
      generalize bitN R k = b at *
      generalize hPP : 2 ^ k = P at *
      clear hPP
      have hbnd : s + b * P < 18446744073709551616 := by omega
      go_wp2_with fail
      exact ⟨⟨k + 1, by omega, by go_num, congrArg (Value.int .u64) (by rw [HS.out, Int.natCast_add, Int.natCast_mul])⟩, by simp [intOf]; omega⟩
    · obtain rfl : k = d := by omega
      have hs32 : s < 4294967296 := by omega
      go_wp2_with fail
      go_ret2
      refine ⟨?_, rfl⟩
      have hVs : V = s := by rw [← HV.out, HR.out, HS2.out]
      rw [hVs]
      rfl

theorem rcut_any (w : World) (n : Nat) (f d : Int) (hn : n < 18446744073709551616) (hf : (Lit.int .i64 f).wf = true) (hd : (Lit.int .i64 d).wf = true) :
    Calls Tryd.prog 10 #[.int .u64 n, .int .i64 f, .int .i64 d] w fun e w' => e = .returned (.tuple #[.int .u32 (ctV n f d : Nat), .int .i64 (ctE f d)]) ∧ w' = w := by
  unfold ctV ctE
  by_cases h : isF f d = true
  · rw [if_pos h, if_pos h]
    obtain ⟨k, j, rfl, rfl, h1, h2, h3⟩ := isF_nat h
    exact rcut_ok w n k j _ rfl hn h3 h1 h2
  · rw [if_neg h, if_neg h]
    exact rcut_no w n f d hf hd (by simpa using h)

/-! ### imagoref01.Put -/
set_option maxHeartbeats 400000 in
theorem rput_no (w : World) (n f d v : Int) (hf : (Lit.int .i64 f).wf = true) (hd : (Lit.int .i64 d).wf = true) (h : isF f d = false) : Calls Tryd.prog 12 #[.int .u64 n, .agg #[.int .i64 f, .int .i64 d], .int .u32 v] w fun e w' => e = .returned (.tuple #[.int .u64 0, .int .i64 1]) ∧ Below w.heap.size w w' := by
  go_enter Tryd.func12, Tryd.ntmps12
  go_wp2_with fail
  refine (rfield_ok _ _ _ hf hd).mono ?_
  rintro e w1 ⟨rfl, rfl⟩
  go_wp2_with fail
  go_ret2
  exact ⟨rfl, (Below.refl _ _).alloc (Nat.le_refl _) _⟩
set_option maxHeartbeats 400000 in
theorem rput_long (w : World) (n f d v : Nat) (hf : f + d ≤ 64) (hd1 : 1 ≤ d) (hd : d ≤ 32) (hv : v < 4294967296) (hl : ¬ v < 2 ^ d) : Calls Tryd.prog 12 #[.int .u64 n, .agg #[.int .i64 f, .int .i64 d], .int .u32 v] w fun e w' => e = .returned (.tuple #[.int .u64 0, .int .i64 2]) ∧ Below w.heap.size w w' := by
  have h : isF f d = true := by simp [isF]; omega
  go_enter Tryd.func12, Tryd.ntmps12
  go_wp2_with fail
  refine (rfield_ok _ _ _ (wf_nat f (by omega)) (wf_nat d (by omega))).mono ?_
  rintro e w1 ⟨rfl, rfl⟩
  go_wp2_with fail
  refine (power_ok _ d (by omega)).mono ?_
  rintro e w2 ⟨rfl, rfl⟩
  generalize 2 ^ d = D at *
  go_wp2_with fail
  go_ret2
  exact ⟨rfl, (Below.refl _ _).alloc (Nat.le_refl _) _⟩
set_option maxHeartbeats 800000 in
theorem rput_ok (w : World) (n f d v R : Nat) (hR : putR n f d v = R) (hn : n < 18446744073709551616) (hf : f + d ≤ 64) (hd1 : 1 ≤ d) (hd : d ≤ 32) (hv : v < 4294967296) (hl : v < 2 ^ d) : Calls Tryd.prog 12 #[.int .u64 n, .agg #[.int .i64 f, .int .i64 d], .int .u32 v] w fun e w' => e = .returned (.tuple #[.int .u64 R, .int .i64 0]) ∧ Below w.heap.size w w' := by
  have h : isF f d = true := by simp [isF]; omega
  have hRlt : R < 18446744073709551616 := by rw [← hR]; exact putR_lt n f d v hn hf hl
  have hbits : ∀ k, bitN R k = if f ≤ k ∧ k < f + d then bitN v (k - f) else bitN n k := fun k => by rw [← hR]; exact putR_bitN n f d v k hl
  have HB : Hid (∀ k, bitN R k = if f ≤ k ∧ k < f + d then bitN v (k - f) else bitN n k) := hbits
  clear hR hbits
  go_enter Tryd.func12, Tryd.ntmps12
  go_wp2_with fail
  refine (rfield_ok _ _ _ (wf_nat f (by omega)) (wf_nat d (by omega))).mono ?_
  rintro e w1 ⟨rfl, rfl⟩
  go_wp2_with fail
  refine (power_ok _ d (by omega)).mono ?_
  rintro e w2 ⟨rfl, rfl⟩
  generalize 2 ^ d = D at *
  have hdec : decide (D ≤ v) = false := by simp; omega
  go_wp2_with fail
  go_loop [10, 11] (fun a i => ∃ k : Nat, k ≤ 64 ∧ i = .int .i64 k ∧ a = .int .u64 (R % 2 ^ k : Nat)) (fun _ i => 64 - (intOf i).toNat)
  case atStart => exact ⟨0, by omega, rfl, by simp [Nat.mod_one]⟩
  case round =>
    obtain ⟨k, hk, rfl, rfl⟩ := hrel
    by_cases hkd : k < 64
    · have hs := bitN_sum R k
      have hb := HB.out k
      have hb1 : bitN R k ≤ 1 := by unfold bitN; omega
      have hp : 2 ^ k ≤ 2 ^ 63 := Nat.pow_le_pow_right (by omega) (by omega)
      have hm : R % 2 ^ k < 2 ^ k := Nat.mod_lt _ (Nat.two_pow_pos _)
      have hmul : bitN R k * 2 ^ k ≤ 2 ^ k := by
        have := Nat.mul_le_mul_right (2 ^ k) hb1
        omega
      have HS : Hid (R % 2 ^ (k + 1) = R % 2 ^ k + bitN R k * 2 ^ k) := hs
      clear hs
      generalize hss : R % 2 ^ k = s at *
      have HS2 : Hid (R % 2 ^ k = s) := hss
      clear hss
      have HP : Hid (Calls Tryd.prog 32 #[.int .i64 k] (w.alloc (.cells #[.int .i64 f, .int .i64 d] 23)) fun e w' => e = .returned (.int .u64 (2 ^ k : Nat)) ∧ w' = (w.alloc (.cells #[.int .i64 f, .int .i64 d] 23))) := power_ok _ k (by omega)
      generalize hPP : 2 ^ k = P at *
      clear hPP
      have hbnd : s + bitN R k * P < 18446744073709551616 := by omega
      by_cases hin : f ≤ k ∧ k < f + d
      · rw [if_pos hin] at hb
        have HBB : Hid (bitN R k = bitN v (k - f)) := hb
        clear hb
        have hi1 := hin.1
        have hi2 := hin.2
        go_wp2_with fail
        refine (bit_ok _ n k hn (by omega)).mono ?_
        rintro e w3 ⟨rfl, rfl⟩
        go_wp2_with fail
        rw [show ((k : Int) - (f : Int)) = ((k - f : Nat) : Int) by omega]
        refine (bit_ok _ v (k - f) (by omega) (by omega)).mono ?_
        rintro e w4 ⟨he, rfl⟩
        rw [← HBB.out] at he
        subst he
        generalize bitN R k = b at *
        go_wp2_with fail
        refine HP.out.mono ?_
        rintro e w5 ⟨rfl, rfl⟩
        go_wp2_with fail
        exact ⟨⟨k + 1, by omega, by go_num, congrArg (Value.int .u64) (by rw [HS.out, Int.natCast_add, Int.natCast_mul])⟩, by simp [intOf]; omega⟩
      · rw [if_neg hin] at hb
        have HBB : Hid (bitN R k = bitN n k) := hb
        clear hb
        by_cases hi1 : f ≤ k
        · have hi2 : ¬ k < f + d := by omega
          go_wp2_with fail
          refine (bit_ok _ n k hn (by omega)).mono ?_
          rintro e w3 ⟨he, rfl⟩
          rw [← HBB.out] at he
          subst he
          generalize bitN R k = b at *
          go_wp2_with fail
          refine HP.out.mono ?_
          rintro e w5 ⟨rfl, rfl⟩
          go_wp2_with fail
          exact ⟨⟨k + 1, by omega, by go_num, congrArg (Value.int .u64) (by rw [HS.out, Int.natCast_add, Int.natCast_mul])⟩, by simp [intOf]; omega⟩
        · go_wp2_with fail
          refine (bit_ok _ n k hn (by omega)).mono ?_
          rintro e w3 ⟨he, rfl⟩
          rw [← HBB.out] at he
          subst he
          generalize bitN R k = b at *
          go_wp2_with fail
          refine HP.out.mono ?_
          rintro e w5 ⟨rfl, rfl⟩
          go_wp2_with fail
          exact ⟨⟨k + 1, by omega, by go_num, congrArg (Value.int .u64) (by rw [HS.out, Int.natCast_add, Int.natCast_mul])⟩, by simp [intOf]; omega⟩
    · obtain rfl : k = 64 := by omega
      have hR64 : R % 2 ^ 64 = R := Nat.mod_eq_of_lt hRlt
      rw [hR64]
      clear hR64
      go_wp2_with fail
      go_ret2
      exact ⟨rfl, (Below.refl _ _).alloc (Nat.le_refl _) _⟩

theorem rput_any (w : World) (n : Nat) (f d : Int) (v : Nat) (hn : n < 18446744073709551616) (hf : (Lit.int .i64 f).wf = true) (hd : (Lit.int .i64 d).wf = true) (hv : v < 4294967296) :
    Calls Tryd.prog 12 #[.int .u64 n, .agg #[.int .i64 f, .int .i64 d], .int .u32 v] w fun e w' => e = .returned (.tuple #[.int .u64 (ptV n f d v : Nat), .int .i64 (ptE f d v)]) ∧ Below w.heap.size w w' := by
  unfold ptV ptE
  by_cases h : isF f d = true
  · rw [if_pos h]
    obtain ⟨k, j, rfl, rfl, h1, h2, h3⟩ := isF_nat h
    by_cases hl : v < 2 ^ j
    · rw [if_pos ⟨h, by simpa using hl⟩, if_pos (by simpa using hl)]
      exact rput_ok w n k j v _ rfl hn h3 h1 h2 hv hl
    · rw [if_neg (fun e => hl (by simpa using e.2)), if_neg (by simpa using hl)]
      exact rput_long w n k j v h3 h1 h2 hv hl
  · rw [if_neg h, if_neg (fun e => h e.1)]
    exact rput_no w n f d v hf hd (by simpa using h)

/-- An array of two numbers, opened. -/
theorem open_arr2 {H : Type} {enc : TypeId × Value → H} {W : World} {r : Reach} {b0 : Nat} {spare : Nat → Bool} {held : Bool} {v : Value} {dd : DataW H} {p : List MemPlace} (hv : Value.okWide Tryd.prog W r b0 23 v)
    (h : DataW.Trod enc Tryd.prog W 0 spare held 23 v dd p) : ∃ a b : Int, v = .agg #[.int .i64 a, .int .i64 b] ∧ (Lit.int .i64 a).wf = true ∧ (Lit.int .i64 b).wf = true := by
  have hcs : ∃ cs, v = .agg cs := by
    simp only [Value.okWide, Tryd.underlying23] at hv
    obtain ⟨cs, h1, _⟩ := hv
    exact ⟨cs, h1⟩
  obtain ⟨⟨l⟩, rfl⟩ := hcs
  obtain ⟨fuel, hf⟩ := h
  obtain ⟨xs, m, _, _, hlen, hxs, hel⟩ := DataW.trod_array Tryd.underlying23 hf
  have hc2 : Tryd.prog.cellsOf 23 = 2 := by kernel_rfl
  rw [hc2] at hlen
  have hl2 : l.length = 2 := hlen
  match l, hl2, hel with
  | [c0, c1], _, hel =>
    match xs, hxs, hel with
    | [y0, y1], _, hel =>
      have e0 := hel 0 (by omega)
      have e1 := hel 1 (by omega)
      rw [cells3] at e0 e1
      obtain ⟨a, ea, _, wa⟩ := DataW.trod_int Tryd.underlying3 (show DataW.trod enc Tryd.prog W 0 spare held m 3 [c0] = some y0 from e0)
      obtain ⟨b, eb, _, wb⟩ := DataW.trod_int Tryd.underlying3 (show DataW.trod enc Tryd.prog W 0 spare held m 3 [c1] = some y1 from e1)
      simp only [List.cons.injEq, and_true] at ea eb
      subst ea eb
      exact ⟨a, b, rfl, wa, wb⟩
end Go.Proofs.YtjfgeledmlkppaaDoor
