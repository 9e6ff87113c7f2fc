/- EnvsTurns' walk; no statement is proved in this text. -/
import Derived.Test.YtopbgeoledocaaaArgs
namespace Go.Proofs.Ytopbgeoledocaaa
open Go.ChangeShapes Go.WideShapes Go.ChangeAt Go.RowKit Go.Deep
attribute [local go_sem ↓] Go.wp_at_zero Go.wp_at_succ

theorem turns_long (w : World) (ao : Option Addr) (len cap : Nat) (p : Int) (hlen : len ≤ maxLen) (h : 100 < len) : Calls Try.prog 4 #[.slice ao len cap, i64 p] w fun e w' => e = .returned (.bool true) ∧ Below w.heap.size w w' := by
  have hI : (100 : Int) < len := by omega
  have hm : (len : Int) ≤ 9223372036854775807 := by unfold maxLen at hlen; omega
  clear h hlen
  go_enter Try.func4, Try.ntmps4
  go_wp2_with fail
  refine (five_ok _).mono ?_
  rintro e w2 ⟨rfl, hb2⟩
  have HB2 := hid hb2
  clear hb2
  go_wp2_with fail
  go_ret
  exact ⟨rfl, HB2.out⟩
theorem turns_none (w : World) (ao : Option Addr) (cap : Nat) (p : Int) : Calls Try.prog 4 #[.slice ao 0 cap, i64 p] w fun e w' => e = .returned (.bool true) ∧ Below w.heap.size w w' := by
  go_enter Try.func4, Try.ntmps4
  go_wp2_with fail
  refine (turn_zero w ao cap p).mono ?_
  rintro e v1 ⟨rfl, hv⟩
  replace hv := hv.symm
  subst hv
  go_wp2_with fail
  refine (five_ok _).mono ?_
  rintro e w2 ⟨rfl, hb2⟩
  have HB2 := hid hb2
  clear hb2
  go_wp2_with fail
  go_ret
  exact ⟨rfl, HB2.out⟩
set_option maxRecDepth 100000 in
set_option maxHeartbeats 1600000 in
theorem turns_in (w : World) (ao : Option Addr) (len cap : Nat) (p : Int) (f : Nat → Int) (hS : NSl w ao len f) (h0 : 0 < len) (hl : len ≤ 100) : Calls Try.prog 4 #[.slice ao len cap, i64 p] w fun e w' => e = .returned (.bool true) ∧ Below w.heap.size w w' := by
  have hlI : (len : Int) ≤ 100 := by omega
  have h0I : (0 : Int) < len := by omega
  have hne : ((len : Int) == 0) = false := by simp; omega
  have e0 := Int.emod_nonneg p (show (len : Int) ≠ 0 by omega)
  have e1 := Int.emod_lt_of_pos p h0I
  have hfx := tmod_fix p len h0I
  obtain ⟨K, hK⟩ : ∃ K : Nat, (K : Int) = p % (len : Int) := ⟨(p % (len : Int)).toNat, by omega⟩
  have hKl : K < len := by omega
  obtain ⟨X, hX⟩ : ∃ X, X = f K := ⟨_, rfl⟩
  have HT : Hid (∀ q, q % (len : Int) = K → Calls Try.prog 15 #[.slice ao len cap, i64 q] w fun e w' => e = .returned (i64 X) ∧ w' = w) := fun q hq => by
    have := turn_in w ao len cap q f hS h0 hl
    rw [hq, Int.toNat_natCast, ← hX] at this
    exact this
  have HR : Hid (Calls Try.prog 16 #[.slice ao len cap, i64 p] w fun e w' => e = .returned (i64 X) ∧ w' = w) := by
    have := rturn_in w ao len cap p f hS h0 hl
    rw [← hK, Int.toNat_natCast, ← hX] at this
    exact this
  have HK := hid hK
  have HX := hid hfx
  have hKI : (K : Int) < len := by omega
  have hK0 : (0 : Int) ≤ K := by omega
  obtain ⟨B, off, rfl, _, hc⟩ := hS.at hKl
  rw [← hX] at hc
  have HF := hid (five_ok w)
  clear hfx e0 e1 hK hS hX
  have HX2 := HX.out
  rw [← HK.out] at HX2
  have HX3 := hid HX2
  clear HX HX2
  have HKK : Hid ((K : Int) % (len : Int) = K) := Int.emod_eq_of_lt hK0 hKI
  go_enter Try.func4, Try.ntmps4
  go_wp2_with fail
  refine (HT.out p HK.out.symm).mono ?_
  rintro e v1 ⟨rfl, hv⟩
  replace hv := hv.symm
  subst hv
  go_upto_region 7 with fail
  have HX2 := HX3.out
  clear HX3
  generalize p.tmod (len : Int) = r at *
  by_cases hr : r < 0
  · rw [if_pos hr] at HX2
    obtain rfl : r = (K : Int) - len := by omega
    clear HX2
    have HT2 : Hid (Calls Try.prog 15 #[.slice (some ⟨B, off, none⟩) len cap, i64 ((K : Int) - len)] w fun e w' => e = .returned (i64 X) ∧ w' = w) := HT.out _ (by rw [Int.sub_emod_right]; exact HKK.out)
    go_wp2_with fail
    refine HT2.out.mono ?_
    rintro e v1 ⟨rfl, hv⟩
    replace hv := hv.symm
    subst hv
    go_wp2_with fail
    refine HR.out.mono ?_
    rintro e v1 ⟨rfl, hv⟩
    replace hv := hv.symm
    subst hv
    go_wp2_with fail
    refine (HT.out K HKK.out).mono ?_
    rintro e v1 ⟨rfl, hv⟩
    replace hv := hv.symm
    subst hv
    go_wp2_with fail
    refine HF.out.mono ?_
    rintro e w2 ⟨rfl, hb2⟩
    have HB2 := hid hb2
    clear hb2
    go_wp2_with fail
    go_ret
    exact ⟨rfl, HB2.out⟩
  · rw [if_neg hr] at HX2
    subst HX2
    go_wp2_with fail
    refine (HT.out K HKK.out).mono ?_
    rintro e v1 ⟨rfl, hv⟩
    replace hv := hv.symm
    subst hv
    go_wp2_with fail
    refine HR.out.mono ?_
    rintro e v1 ⟨rfl, hv⟩
    replace hv := hv.symm
    subst hv
    go_wp2_with fail
    refine (HT.out K HKK.out).mono ?_
    rintro e v1 ⟨rfl, hv⟩
    replace hv := hv.symm
    subst hv
    go_wp2_with fail
    refine HF.out.mono ?_
    rintro e w2 ⟨rfl, hb2⟩
    have HB2 := hid hb2
    clear hb2
    go_wp2_with fail
    go_ret
    exact ⟨rfl, HB2.out⟩
theorem turns_any (w : World) (ao : Option Addr) (len cap : Nat) (p : Int) (f : Nat → Int) (hlen : len ≤ maxLen) (hS : NSl w ao len f) : Calls Try.prog 4 #[.slice ao len cap, i64 p] w fun e w' => e = .returned (.bool true) ∧ Below w.heap.size w w' := by
  by_cases h : 100 < len
  · exact turns_long w ao len cap p hlen h
  · by_cases h0 : len = 0
    · subst h0
      exact turns_none w ao cap p
    · exact turns_in w ao len cap p f hS (by omega) (by omega)
end Go.Proofs.Ytopbgeoledocaaa
