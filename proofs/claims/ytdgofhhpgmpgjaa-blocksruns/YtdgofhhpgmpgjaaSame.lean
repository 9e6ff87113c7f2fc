/- imagolaw03.same and imagoplain.Ints of equal lists: their contracts; no statement is proved in this text. -/
import Derived.Test.YtdgofhhpgmpgjaaBase
namespace Go.Proofs.Ytdgofhhpgmpgjaa
open Go.ChangeShapes Go.WideShapes Go.ChangeAt Go.RowKit Go.Deep

set_option maxHeartbeats 800000 in
theorem same_ok (w : World) (ao bo : Option Addr) (c1 c2 : Nat) (rs : List (Int × Int)) (hA : RSl w ao rs) (hB : RSl w bo rs) (hlen : rs.length ≤ 1000) :
    Calls Try.prog 14 #[.slice ao rs.length c1, .slice bo rs.length c2] w fun e w' => e = .returned (.bool true) ∧ Below w.heap.size w w' := by
  have HA : Hid (RSl w ao rs) := hA
  have HB : Hid (RSl w bo rs) := hB
  clear hA hB
  have hN : ∃ n, rs.length = n := ⟨_, rfl⟩
  obtain ⟨n, hN⟩ := hN
  rw [hN] at hlen ⊢
  have HN : Hid (rs.length = n) := hN
  clear hN
  go_enter Try.func14, Try.ntmps14
  go_wp2_with fail
  go_loopw [9] (fun i wr => ∃ k : Nat, k ≤ n ∧ i = i64 k ∧ Below w.heap.size w wr) (fun i _ => n - (intOf i).toNat)
  case atStart => exact ⟨0, by omega, rfl, Below.refl _ _⟩
  case round =>
    obtain ⟨k, hk, rfl, hb⟩ := hrel
    by_cases hlt : k < n
    · have hkl : k < rs.length := by rw [HN.out]; exact hlt
      obtain ⟨b, off, rfl, hbl, a0, a1⟩ := (HA.out.below hb).at hkl
      obtain ⟨b', off', rfl, hbl', b0, b1⟩ := (HB.out.below hb).at hkl
      have hE : ∃ f l, rs[k] = (f, l) := ⟨_, _, rfl⟩
      obtain ⟨f, l, hE⟩ := hE
      rw [hE] at a0 a1 b0 b1
      have HW : Hid (Below w.heap.size w wr) := hb
      clear hb hE hkl
      have hd : decide ((n : Int) ≤ (k : Int)) = false := decide_eq_false (by omega)
      go_wp2_with fail
      go_quiet (fail)
      go_wp2_with fail
      exact ⟨⟨k + 1, by omega, by go_num, below_drewN (HW.out.alloc HW.out.size _) _⟩, by simp [intOf]; omega⟩
    · have HW : Hid (Below w.heap.size w wr) := hb
      clear hb
      go_wp2_with fail
      go_ret
      exact ⟨by simp, HW.out⟩

set_option maxHeartbeats 800000 in
theorem ints_ok (w : World) (ao bo : Option Addr) (c1 c2 : Nat) (xs : List Int) (hA : ISl w ao xs) (hB : ISl w bo xs) (hlen : xs.length ≤ 2000) :
    Calls Try.prog 15 #[.slice ao xs.length c1, .slice bo xs.length c2] w fun e w' => e = .returned (.bool true) ∧ Below w.heap.size w w' := by
  have HA : Hid (ISl w ao xs) := hA
  have HB : Hid (ISl w bo xs) := hB
  clear hA hB
  have hN : ∃ n, xs.length = n := ⟨_, rfl⟩
  obtain ⟨n, hN⟩ := hN
  rw [hN] at hlen ⊢
  have HN : Hid (xs.length = n) := hN
  clear hN
  go_enter Try.func15, Try.ntmps15
  go_wp2_with fail
  go_loopw [8] (fun i wr => ∃ k : Nat, k ≤ n ∧ i = i64 k ∧ Below w.heap.size w wr) (fun i _ => n - (intOf i).toNat)
  case atStart => exact ⟨0, by omega, rfl, Below.refl _ _⟩
  case round =>
    obtain ⟨k, hk, rfl, hb⟩ := hrel
    by_cases hlt : k < n
    · have hkl : k < xs.length := by rw [HN.out]; exact hlt
      obtain ⟨b, off, rfl, hbl, a0⟩ := (HA.out.below hb).at hkl
      obtain ⟨b', off', rfl, hbl', b0⟩ := (HB.out.below hb).at hkl
      have hE : ∃ f, xs[k] = f := ⟨_, rfl⟩
      obtain ⟨f, hE⟩ := hE
      rw [hE] at a0 b0
      have HW : Hid (Below w.heap.size w wr) := hb
      clear hb hE hkl
      have hd : decide ((n : Int) ≤ (k : Int)) = false := decide_eq_false (by omega)
      go_wp2_with fail
      go_quiet (fail)
      go_wp2_with fail
      exact ⟨⟨k + 1, by omega, by go_num, below_drewN HW.out _⟩, by simp [intOf]; omega⟩
    · have HW : Hid (Below w.heap.size w wr) := hb
      clear hb
      go_wp2_with fail
      go_ret
      exact ⟨by simp, HW.out⟩
end Go.Proofs.Ytdgofhhpgmpgjaa
