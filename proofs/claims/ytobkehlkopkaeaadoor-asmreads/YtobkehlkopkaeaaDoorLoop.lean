/- The example of the laws of layer 6, and Texts: their contracts; no statement is proved in this text. -/
import Derived.Test.YtobkehlkopkaeaaDoorLines
import Derived.Test.YtobkehlkopkaeaaDoorReadWalk
namespace Go.Proofs.YtobkehlkopkaeaaDoor
open Go.ChangeShapes Go.WideShapes Go.ChangeAt Go.RowKit
set_option maxRecDepth 100000

set_option maxHeartbeats 1600000 in
theorem texts_ok (w : World) (xs : List Bs) (ao bo : Option Addr) (c d : Nat) (ha : WSl w ao xs) (hb : WSl w bo xs) (hn : xs.length ≤ 1000) :
    Calls Tryd.prog 16 #[.slice ao xs.length c, .slice bo xs.length d] w fun e w' => e = .returned (.bool true) ∧ Below w.heap.size w w' := by
  have HA : Hid (WSl w ao xs) := ha
  have HB : Hid (WSl w bo xs) := hb
  obtain ⟨N, hN⟩ : ∃ N, xs.length = N := ⟨_, rfl⟩
  have HN : Hid (xs.length = N) := hN
  rw [hN] at hn ⊢
  clear ha hb hN
  go_enter Tryd.func16, Tryd.ntmps16
  go_wp2_with fail
  go_loopw [8] (fun i wr => ∃ k : Nat, i = i64 k ∧ k ≤ N ∧ Below w.heap.size w wr) (fun i _ => N - (intOf i).toNat)
  case atStart => exact ⟨0, rfl, by omega, Below.refl _ _⟩
  case round =>
    obtain ⟨k, rfl, hk, hb⟩ := hrel
    have HBW : Hid (Below w.heap.size w wr) := hb
    have hz := hb.size
    by_cases hkN : k < N
    · have hkx : k < xs.length := by rw [HN.out]; exact hkN
      obtain ⟨b1, o1, rfl, hb1, c1⟩ := (HA.out.below hb).at hkx
      obtain ⟨b2, o2, rfl, hb2, c2⟩ := (HB.out.below hb).at hkx
      have hge : decide ((N : Int) ≤ (k : Int)) = false := by simp; omega
      clear hb
      generalize xs[k] = y at *
      go_wp2_with fail
      go_quiet (fail)
      go_wp2_with fail
      exact ⟨⟨k + 1, by go_num, by omega, HBW.out.trans ⟨rfl, rfl, rfl, Nat.le_refl _, fun _ _ => rfl⟩⟩, by simp [intOf]; omega⟩
    · clear hb
      go_wp2_with fail
      go_ret
      exact ⟨rfl, HBW.out⟩

def exL : List Bs := [[115, 101, 116, 32, 114, 49, 32, 51], [115, 117, 98, 32, 114, 49, 32, 114, 50], [111, 116, 104, 101, 114, 32, 114, 49, 32, 54, 53, 53, 51, 48]]
theorem exA : alL [1, 16, 0, 3, 4, 18, 19, 16, 255, 250] = [⟨1, 1, 0, 3⟩, ⟨4, 1, 2, 0⟩, ⟨19, 1, 0, 65530⟩] ∧ alE [1, 16, 0, 3, 4, 18, 19, 16, 255, 250] = 0 := by decide +kernel
theorem exLn : (alL [1, 16, 0, 3, 4, 18, 19, 16, 255, 250]).map lineF = exL := by
  rw [exA.1]
  simp [lineF, exL, nmOf, nmT, rg, fNums, nb, Lib.itoa, Lib.decDigits]
theorem exP : Pln exT := by
  unfold Pln
  decide +kernel
end Go.Proofs.YtobkehlkopkaeaaDoor
