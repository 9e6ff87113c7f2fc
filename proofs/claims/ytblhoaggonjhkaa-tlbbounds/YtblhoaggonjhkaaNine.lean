/- imagolaw04's own small case 'nine': its contract; no statement is proved in this text. -/
import Derived.Test.YtblhoaggonjhkaaPut
namespace Go.Proofs.Ytblhoaggonjhkaa
open Go.ChangeShapes Go.WideShapes Go.ChangeAt Go.RowKit Go.Deep

def nineL (i : Nat) : Ls := (List.range i).foldl (fun (L : Ls) (j : Nat) => putL L ⟨0, 0, (j : Int)⟩ ⟨(j : Int), false⟩) []
theorem nineL_succ (i : Nat) : nineL (i + 1) = putL (nineL i) ⟨0, 0, (i : Int)⟩ ⟨(i : Int), false⟩ := by
  unfold nineL
  rw [List.range_succ, List.foldl_append]
  rfl
theorem nineL_len : ∀ i, (nineL i).length ≤ 8
  | 0 => by simp [nineL]
  | i + 1 => by rw [nineL_succ]; exact putL_len _ _ _ (nineL_len i)
theorem ni1 : look (nineL 9) ⟨0, 0, 0⟩ = none := by decide +kernel
theorem ni2 : look (nineL 9) ⟨0, 0, 8⟩ = some ⟨8, false⟩ := by decide +kernel
theorem ni3 : (keysOf (nineL 9)).length = 8 := by decide +kernel

set_option maxRecDepth 100000 in
set_option maxHeartbeats 2000000 in
theorem nine_ok (w : World) : Calls Try.prog 8 #[] w fun e w' => e = .returned (.bool true) ∧ Below w.heap.size w w' := by
  go_enter Try.func8, Try.ntmps8
  go_wp2_with fail
  refine (new_ok w).mono ?_
  rintro e w0 ⟨rfl, hb0, hB0⟩
  have HB0 : Hid (Below w.heap.size w w0) := hb0
  have HU0 : Hid (Buf w0 w.heap.size w.heap.size [] [] 0 0) := hB0
  clear hb0 hB0
  go_wp2_with fail
  go_loopw [2] (fun i wr => ∃ k : Nat, k ≤ 9 ∧ i = i64 k ∧ Below w.heap.size w wr ∧ Buf wr w.heap.size w.heap.size (nineL k) (keysOf (nineL k)) 0 0) (fun i _ => 9 - (intOf i).toNat)
  case atStart => exact ⟨0, by omega, rfl, HB0.out, HU0.out⟩
  case round =>
    obtain ⟨k, hk, rfl, hb, hB⟩ := hrel
    have HB : Hid (Below w.heap.size w wr) := hb
    have HU : Hid (Buf wr w.heap.size w.heap.size (nineL k) (keysOf (nineL k)) 0 0) := hB
    clear hb hB
    by_cases hlt : k < 9
    · have hI : (k : Int) < 9 := by omega
      go_wp2_with fail
      refine (put_ok HU.out (nineL_len k) HB.out.size ⟨0, 0, (k : Int)⟩ ⟨(k : Int), false⟩).mono ?_
      rintro e w1 ⟨rfl, hf, hu⟩
      rw [← nineL_succ] at hu
      have HB1 : Hid (Below w.heap.size w w1) := HB.out.trans hf.below
      have HU1 : Hid (Buf w1 w.heap.size w.heap.size (nineL (k + 1)) (keysOf (nineL (k + 1))) 0 0) := hu
      clear hf hu
      go_wp2_with fail
      exact ⟨⟨k + 1, by omega, by go_num, HB1.out, HU1.out⟩, by simp [intOf]; omega⟩
    · obtain rfl : k = 9 := by omega
      go_wp2_with fail
      refine (get_ok HU.out ⟨0, 0, 0⟩ (by omega) (by omega)).mono ?_
      rintro e w1 ⟨he, hf, hu⟩
      rw [ni1] at he hu
      simp only [Option.getD_none, Option.isSome_none] at he
      subst he
      have HB1 : Hid (Below w.heap.size w w1) := HB.out.trans hf.below
      have HU1 : Hid (Buf w1 w.heap.size w.heap.size (nineL 9) (keysOf (nineL 9)) 0 1) := hu
      clear hf hu
      have hba : ∀ (V : World) (o : Obj), Below V.heap.size V (V.alloc o) := fun V o => (Below.refl _ _).alloc (Nat.le_refl _) o
      go_wp2_with fail
      refine (get_ok (HU1.out.below (hba _ _)) ⟨0, 0, 8⟩ (by omega) (by omega)).mono ?_
      rintro e w2 ⟨he, hf, hu⟩
      rw [ni2] at he hu
      simp only [Option.getD_some, Option.isSome_some] at he
      subst he
      have HB2 : Hid (Below w.heap.size w w2) := (HB1.out.alloc HB1.out.size _).trans hf.below
      have HU2 : Hid (Buf w2 w.heap.size w.heap.size (nineL 9) (keysOf (nineL 9)) 1 1) := hu
      clear hf hu
      go_wp2_with fail
      refine (counts_ok (HU2.out.below (hba _ _))).mono ?_
      rintro e w3 ⟨rfl, nn, rfl⟩
      have hU3 := HU2.out.below (hba w2 (.cells #[i64 8, .bool false] 33))
      have HU3 : Hid (Buf ((w2.alloc (.cells #[i64 8, .bool false] 33)).drewN nn) w.heap.size w.heap.size (nineL 9) (keysOf (nineL 9)) 1 1) := hU3.below ⟨rfl, rfl, rfl, Nat.le_refl _, fun _ _ => rfl⟩
      have HB3 : Hid (Below w.heap.size w ((w2.alloc (.cells #[i64 8, .bool false] 33)).drewN nn)) := below_drewN (HB2.out.alloc HB2.out.size _) nn
      have hkk := keys_ok HU3.out (by rw [ni3]; omega)
      rw [ni3] at hkk
      clear hba hU3
      go_wp2_with fail
      refine hkk.mono ?_
      rintro e w4 ⟨hb4, v4, rfl, ho4⟩
      obtain ⟨a4, c4, rfl, _⟩ := own_slice ho4
      have HB4 : Hid (Below w.heap.size w w4) := HB3.out.trans (hb4.mono HB3.out.size)
      clear hb4 ho4 hkk
      go_wp2_with fail
      go_ret
      exact ⟨by simp, HB4.out⟩
end Go.Proofs.Ytblhoaggonjhkaa
