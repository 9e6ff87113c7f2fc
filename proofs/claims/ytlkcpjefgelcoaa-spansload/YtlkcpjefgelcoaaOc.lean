/- Map, Load, Fork; no statement is proved in this text. -/
import Derived.Test.YtlkcpjefgelcoaaOb
namespace Go.Proofs.Ytlkcpjefgelcoaa
open Go.ChangeShapes Go.WideShapes Go.ChangeAt Go.RowKit Go.Deep
attribute [local go_sem ↓] Go.wp_at_zero Go.wp_at_succ

theorem cond4 (p n : Int) : (1 ≤ p ∧ p ≤ 6) ∧ 1 ≤ n ∧ n ≤ 16 ∨ ¬((1 ≤ p ∧ p ≤ 6) ∧ 1 ≤ n ∧ n ≤ 16) := Classical.em _
set_option maxRecDepth 100000 in
set_option maxHeartbeats 3200000 in
theorem map_arg (w : World) (pv : Value) (p n : Int) (h : ¬((1 ≤ p ∧ p ≤ 6) ∧ 1 ≤ n ∧ n ≤ 16)) : Calls Try.prog 19 #[pv, i64 p, i64 n] w fun e w' => e = .returned (.tuple #[i64 0, i64 1]) ∧ Below w.heap.size w w' := by
  have HB := hid (Below.refl w.heap.size w)
  have HC := hid (isProc_ok w p)
  by_cases h1 : 1 ≤ p ∧ p ≤ 6
  · rw [decide_eq_true h1] at HC
    by_cases h2 : 1 ≤ n
    · have h3 : 16 < n := by omega
      clear h h1
      go_enter Try.func19, Try.ntmps19
      go_wp2_with fail
      refine HC.out.mono ?_
      rintro e w1 ⟨rfl, hw1⟩
      replace hw1 := hw1.symm
      subst hw1
      go_wp2_with fail
      go_ret2
      exact ⟨rfl, HB.out⟩
    · have h3 : n < 1 := by omega
      clear h h1 h2
      go_enter Try.func19, Try.ntmps19
      go_wp2_with fail
      refine HC.out.mono ?_
      rintro e w1 ⟨rfl, hw1⟩
      replace hw1 := hw1.symm
      subst hw1
      go_wp2_with fail
      go_ret2
      exact ⟨rfl, HB.out⟩
  · rw [decide_eq_false h1] at HC
    clear h h1
    go_enter Try.func19, Try.ntmps19
    go_wp2_with fail
    refine HC.out.mono ?_
    rintro e w1 ⟨rfl, hw1⟩
    replace hw1 := hw1.symm
    subst hw1
    go_wp2_with fail
    go_ret2
    exact ⟨rfl, HB.out⟩
set_option maxRecDepth 100000 in
set_option maxHeartbeats 3200000 in
theorem map_nil (w : World) (p n : Int) (h : (1 ≤ p ∧ p ≤ 6) ∧ 1 ≤ n ∧ n ≤ 16) : Calls Try.prog 19 #[.pointer none, i64 p, i64 n] w fun e w' => e = .returned (.tuple #[i64 0, i64 7]) ∧ Below w.heap.size w w' := by
  have HB := hid (Below.refl w.heap.size w)
  have HC := hid (isProc_ok w p)
  rw [decide_eq_true h.1] at HC
  obtain ⟨_, h2, h3⟩ := h
  go_enter Try.func19, Try.ntmps19
  go_wp2_with fail
  refine HC.out.mono ?_
  rintro e w1 ⟨rfl, hw1⟩
  replace hw1 := hw1.symm
  subst hw1
  go_wp2_with fail
  go_ret2
  exact ⟨rfl, HB.out⟩
set_option maxRecDepth 100000 in
set_option maxHeartbeats 3200000 in
theorem map_no (w : World) (base P : Nat) (L : List Ar) (p n : Int) (h : (1 ≤ p ∧ p ≤ 6) ∧ 1 ≤ n ∧ n ≤ 16) (hL : Lb w base P L) (hg : Good L) (hm : MapNo L p n) : Calls Try.prog 19 #[pq P, i64 p, i64 n] w fun e w' => e = .returned (.tuple #[i64 0, i64 5]) ∧ Below w.heap.size w w' := by
  have HC := hid (isProc_ok w p)
  rw [decide_eq_true h.1] at HC
  obtain ⟨hp, h2, h3⟩ := h
  have HM := hid hm
  have HG := hid hg
  have HL := hid hL
  have HP := hid hp
  clear hm hg hL hp
  go_enter Try.func19, Try.ntmps19
  go_wp2_with fail
  refine HC.out.mono ?_
  rintro e w1 ⟨rfl, hw1⟩
  replace hw1 := hw1.symm
  subst hw1
  go_wp2_with fail
  go_loopw [25] (fun u wr => ∃ (k : Nat), (k : Int) ≤ 17 - n ∧ u = i64 k ∧ Hid (Lb wr base P L) ∧ Hid (Below w.heap.size w wr)) (fun u _ => 17 - (intOf u).toNat)
  case atStart => exact ⟨0, by omega, rfl, HL, Below.refl _ _⟩
  case round =>
    obtain ⟨k, hk, rfl, HLr, HBr⟩ := hrel
    by_cases hlt : (k : Int) < 17 - n
    · have hb := HM.out k (by omega)
      obtain ⟨v, hv⟩ := HLr.out
      have HY := hid (lay_no wr base P v L (p, (k : Int), n) hv HG.out (isA_mk ⟨HP.out.1, HP.out.2, by simp, h2, by show (k : Int) + n ≤ 16; omega⟩) hb)
      clear hb hv
      go_wp2_with fail
      refine HY.out.mono ?_
      rintro e w2 ⟨rfl, hb2⟩
      have HB2 : Hid (Below w.heap.size w w2) := HBr.out.trans (hb2.mono HBr.out.size)
      have HL2 := hid (HLr.out.below hb2)
      clear hb2 HY
      go_wp2_with fail
      exact ⟨⟨k + 1, by push_cast; omega, by go_num, HL2, HB2⟩, by simp [intOf]; omega⟩
    · go_wp2_with fail
      go_ret2
      exact ⟨rfl, HBr.out⟩
set_option maxRecDepth 100000 in
set_option maxHeartbeats 3200000 in
theorem map_at (w : World) (base P : Nat) (L : List Ar) (p n : Int) (K : Nat) (h : (1 ≤ p ∧ p ≤ 6) ∧ 1 ≤ n ∧ n ≤ 16) (hL : Lb w base P L) (hg : Good L) (hm : MapAt L p n K) : Calls Try.prog 19 #[pq P, i64 p, i64 n] w fun e w' => e = .returned (.tuple #[i64 K, i64 0]) ∧ Lb w' base P (L ++ [(p, (K : Int), n)]) ∧ Fr base [75, 79] w w' := by
  have HC := hid (isProc_ok w p)
  rw [decide_eq_true h.1] at HC
  obtain ⟨hp, h2, h3⟩ := h
  have HM := hid hm
  have hK : (K : Int) + n ≤ 16 := hm.1
  have HG := hid hg
  have HL := hid hL
  have HP := hid hp
  have hbw := hL.lob
  clear hm hg hL hp
  go_enter Try.func19, Try.ntmps19
  go_wp2_with fail
  refine HC.out.mono ?_
  rintro e w1 ⟨rfl, hw1⟩
  replace hw1 := hw1.symm
  subst hw1
  go_wp2_with fail
  go_loopw [25] (fun u wr => ∃ (k : Nat), (k : Int) ≤ 17 - n ∧ k ≤ K ∧ u = i64 k ∧ Hid (Lb wr base P L) ∧ Hid (Below w.heap.size w wr)) (fun u _ => 17 - (intOf u).toNat)
  case atStart => exact ⟨0, by omega, Nat.zero_le _, rfl, HL, Below.refl _ _⟩
  case round =>
    obtain ⟨k, hk, hkK, rfl, HLr, HBr⟩ := hrel
    have hlt : (k : Int) < 17 - n := by omega
    have HI : Hid (isA (p, (k : Int), n) = true) := isA_mk ⟨HP.out.1, HP.out.2, by simp, h2, by show (k : Int) + n ≤ 16; omega⟩
    by_cases hkk : k < K
    · obtain ⟨v, hv⟩ := HLr.out
      have HY := hid (lay_no wr base P v L (p, (k : Int), n) hv HG.out HI.out (HM.out.2.2 k hkk))
      clear hv
      go_wp2_with fail
      refine HY.out.mono ?_
      rintro e w2 ⟨rfl, hb2⟩
      have HB2 : Hid (Below w.heap.size w w2) := HBr.out.trans (hb2.mono HBr.out.size)
      have HL2 := hid (HLr.out.below hb2)
      clear hb2 HY
      go_wp2_with fail
      exact ⟨⟨k + 1, by push_cast; omega, by omega, by go_num, HL2, HB2⟩, by simp [intOf]; omega⟩
    · obtain rfl : k = K := by omega
      obtain ⟨v, hv⟩ := HLr.out
      have HY := hid (lay_yes wr base P v L (p, (k : Int), n) hv HG.out HI.out HM.out.2.1)
      clear hv hkk
      go_wp2_with fail
      refine HY.out.mono ?_
      rintro e w2 ⟨rfl, v2, hl2, _, hf2, _⟩
      have HL2 : Hid (Lb w2 base P (L ++ [(p, (k : Int), n)])) := ⟨v2, hl2⟩
      have HF2 : Hid (Fr base [75, 79] w w2) := (Fr.of_below _ HBr.out hbw).trans hf2
      clear hl2 hf2 HY
      go_wp2_with fail
      go_ret2
      exact ⟨rfl, HL2.out, HF2.out⟩
def LoadA (w' : World) (b : Nat) (X : List Ar) (e : Ending) : Prop := (Good X ∧ e = .returned (.tuple #[pq b, i64 0]) ∧ Lb w' b b X) ∨ (¬ Good X ∧ e = .returned (.tuple #[.pointer none, i64 4]))
end Go.Proofs.Ytlkcpjefgelcoaa
