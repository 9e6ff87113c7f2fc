/- The document's Line: its contract; no statement is proved in this text. -/
import Derived.Test.YtobkehlkopkaeaaDoorDigits
namespace Go.Proofs.YtobkehlkopkaeaaDoor
open Go.ChangeShapes Go.WideShapes Go.ChangeAt Go.RowKit
set_option maxRecDepth 100000

set_option maxHeartbeats 1600000 in
theorem rline_no (w : World) (i : In) (h : isI i = false) : Calls Tryd.prog 14 #[inV i] w fun e w' => e = .returned (.tuple #[.string ⟨#[]⟩, i64 4]) ∧ Below w.heap.size w w' := by
  have HC : Hid (∀ w, Calls Tryd.prog 37 #[inV i] w fun e w' => e = .returned (.bool false) ∧ Below w.heap.size w w') := fun w => by have := is_ok w i; rw [h] at this; exact this
  clear h
  obtain ⟨op, a, b, n⟩ := i
  go_enter Tryd.func14, Tryd.ntmps14
  go_wp2_with fail
  refine (HC.out _).mono ?_
  rintro e w1 ⟨rfl, hb1⟩
  have HB1 : Hid (Below w.heap.size w w1) := (below_one w _).trans (hb1.mono (by simp))
  clear hb1
  go_wp2_with fail
  go_ret2
  exact ⟨rfl, HB1.out⟩

set_option maxHeartbeats 1600000 in
theorem rline_go (w : World) (k a b n : Nat) (hk : k < 21) (ha : a ≤ 7) (hb : b ≤ 7) (hn : n ≤ 65535) (hI : isI ⟨k, a, b, n⟩ = true) (S : ByteArray) (R L : Nat) (hL : L ≤ 2) (hSs : S.size = L) (hshp : str (shpF k) = .string S)
    (hlet1 : ∀ j, j < R → j < L → ∀ h, (S[j]'h).toNat = 114) (hlet2 : ∀ j, R ≤ j → j < L → ∀ h, ∃ c, (S[j]'h).toNat = c ∧ ((c : Int) != 114) = true) (TX : Nat → Bs) (hT0 : TX 0 = nmOf k) (hTl : ∀ j, (TX j).length ≤ 100)
    (hTA : 0 < R → TX 1 = (TX 0 ++ [32, 114]) ++ Lib.decDigits a) (hTB : 1 < R → TX 2 = (TX 1 ++ [32, 114]) ++ Lib.decDigits b) (hTN : ∀ j, R ≤ j → j < L → TX (j + 1) = (TX j ++ [32]) ++ Lib.decDigits n) :
    Calls Tryd.prog 14 #[inV ⟨k, a, b, n⟩] w fun e w' => e = .returned (.tuple #[str (TX L), i64 0]) ∧ Below w.heap.size w w' := by
  have HC : Hid (∀ w, Calls Tryd.prog 37 #[inV ⟨k, a, b, n⟩] w fun e w' => e = .returned (.bool true) ∧ Below w.heap.size w w') := fun w => by have := is_ok w ⟨k, a, b, n⟩; rw [hI] at this; exact this
  have HNM : Hid (∀ w, Calls Tryd.prog 18 #[i64 k] w fun e w' => e = .returned (str (TX 0)) ∧ Below w.heap.size w w') := fun w => by
    have := rname_ok w k
    rw [if_pos (by omega), Int.toNat_natCast, ← hT0] at this
    exact this
  have HSH : Hid (∀ w, Calls Tryd.prog 38 #[i64 k] w fun e w' => e = .returned (.string S) ∧ w' = w) := fun w => by have := shape_ok w k; rw [hshp] at this; exact this
  have HDA : Hid (∀ w, Calls Tryd.prog 39 #[i64 a] w fun e w' => e = .returned (str (Lib.decDigits a)) ∧ Below w.heap.size w w') := digits_ok a (by omega)
  have HDB : Hid (∀ w, Calls Tryd.prog 39 #[i64 b] w fun e w' => e = .returned (str (Lib.decDigits b)) ∧ Below w.heap.size w w') := digits_ok b (by omega)
  have HDN : Hid (∀ w, Calls Tryd.prog 39 #[i64 n] w fun e w' => e = .returned (str (Lib.decDigits n)) ∧ Below w.heap.size w w') := digits_ok n (by omega)
  have hdl : ∀ m : Nat, m ≤ 65535 → (Lib.decDigits m).length ≤ 20 := fun m hm => by rw [Lib.decDigits_length]; exact Lib.nDigits_le20 m (by omega)
  have hla := hdl a (by omega)
  have hlb := hdl b (by omega)
  have hln := hdl n hn
  have HTA : Hid (0 < R → str (TX 1) = .string (((⟨(TX 0).toArray⟩ : ByteArray) ++ ⟨#[32, 114]⟩) ++ ⟨(Lib.decDigits a).toArray⟩)) := fun h => by rw [hTA h]; refine congrArg Value.string ?_; apply ByteArray.ext; simp
  have HTB : Hid (1 < R → str (TX 2) = .string (((⟨(TX 1).toArray⟩ : ByteArray) ++ ⟨#[32, 114]⟩) ++ ⟨(Lib.decDigits b).toArray⟩)) := fun h => by rw [hTB h]; refine congrArg Value.string ?_; apply ByteArray.ext; simp
  have HTN : Hid (∀ j, R ≤ j → j < L → str (TX (j + 1)) = .string (((⟨(TX j).toArray⟩ : ByteArray) ++ ⟨#[32]⟩) ++ ⟨(Lib.decDigits n).toArray⟩)) := fun j h1 h2 => by rw [hTN j h1 h2]; refine congrArg Value.string ?_; apply ByteArray.ext; simp
  have HTL : Hid (∀ j, (TX j).length ≤ 100) := hTl
  have HL1 : Hid (∀ j, j < R → j < L → ∀ h, (S[j]'h).toNat = 114) := hlet1
  have HL2 : Hid (∀ j, R ≤ j → j < L → ∀ h, ∃ c, (S[j]'h).toNat = c ∧ ((c : Int) != 114) = true) := hlet2
  clear hI hshp hlet1 hlet2 hT0 hTl hTA hTB hTN hdl
  go_enter Tryd.func14, Tryd.ntmps14
  go_wp2_with fail
  refine (HC.out _).mono ?_
  rintro e w1 ⟨rfl, hb1⟩
  have HB1 : Hid (Below w.heap.size w w1) := (below_one w _).trans (hb1.mono (by simp))
  have hz1 : w.heap.size < w1.heap.size := by have := hb1.size; simp at this; omega
  have HIN : Hid (w1.heap[w.heap.size]? = some (.cells #[i64 k, i64 a, i64 b, i64 n] 37 (0, 0))) := (hb1.block _ (by simp)).trans (heap_at rfl _)
  have HUP : Hid (∀ W, Below w1.heap.size w1 W → W.cell? ⟨w.heap.size, 0, none⟩ = some (i64 k) ∧ W.cell? ⟨w.heap.size, 1, none⟩ = some (i64 a) ∧ W.cell? ⟨w.heap.size, 2, none⟩ = some (i64 b) ∧ W.cell? ⟨w.heap.size, 3, none⟩ = some (i64 n)) := fun W hb => by
    obtain ⟨x0, x1, x2, x3, _⟩ := four_cells ((hb.block _ hz1).trans HIN.out)
    exact ⟨x0, x1, x2, x3⟩
  obtain ⟨x0, x1, x2, x3⟩ := HUP.out _ (Below.refl _ _)
  clear hb1
  go_wp2_with fail
  refine (HNM.out _).mono ?_
  rintro e w2 ⟨rfl, hb2⟩
  have HB2 : Hid (Below w1.heap.size w1 w2) := hb2
  clear hb2 x0 x1 x2 x3
  go_wp2_with fail
  go_loopw [4, 5] (fun v i wr => ∃ j : Nat, i = i64 j ∧ j ≤ L ∧ v = str (TX j) ∧ Below w1.heap.size w1 wr) (fun _ i _ => L - (intOf i).toNat)
  case atStart => exact ⟨0, rfl, by omega, rfl, HB2.out⟩
  case round =>
    obtain ⟨j, rfl, hj, rfl, hb⟩ := hrel
    obtain ⟨x0, x1, x2, x3⟩ := HUP.out _ hb
    have HB : Hid (Below w1.heap.size w1 wr) := hb
    have hz := hb.size
    have htl := HTL.out j
    have hts := bz (TX j)
    have hsa := bz (Lib.decDigits a)
    have hsb := bz (Lib.decDigits b)
    have hsn := bz (Lib.decDigits n)
    clear hb
    by_cases hjL : j < L
    · by_cases hjR : j < R
      · have hlt := HL1.out j hjR hjL
        rcases (show j = 0 ∨ j = 1 by omega) with rfl | rfl
        · have HT := HTA.out (by omega)
          have HT1 : Hid (str (TX 1) = .string (((⟨(TX 0).toArray⟩ : ByteArray) ++ ⟨#[32, 114]⟩) ++ ⟨(Lib.decDigits a).toArray⟩)) := HT
          clear HT
          go_wp2_with (first
            | (go_at_call 38; refine (HSH.out _).mono ?_; rintro e w5 ⟨rfl, rfl⟩)
            | (go_at_call 39; refine (HDA.out _).mono ?_; rintro e w6 ⟨rfl, hb6⟩; have HB6 : Hid (Below w1.heap.size w1 w6) := HB.out.trans (hb6.mono hz); clear hb6))
          exact ⟨⟨1, by go_num, by omega, HT1.out.symm, HB6.out⟩, by simp [intOf]; omega⟩
        · have HT := HTB.out (by omega)
          have HT1 : Hid (str (TX 2) = .string (((⟨(TX 1).toArray⟩ : ByteArray) ++ ⟨#[32, 114]⟩) ++ ⟨(Lib.decDigits b).toArray⟩)) := HT
          clear HT
          go_wp2_with (first
            | (go_at_call 38; refine (HSH.out _).mono ?_; rintro e w5 ⟨rfl, rfl⟩)
            | (go_at_call 39; refine (HDB.out _).mono ?_; rintro e w6 ⟨rfl, hb6⟩; have HB6 : Hid (Below w1.heap.size w1 w6) := HB.out.trans (hb6.mono hz); clear hb6))
          exact ⟨⟨2, by go_num, by omega, HT1.out.symm, HB6.out⟩, by simp [intOf]; omega⟩
      · obtain ⟨c, hc, hcb⟩ := HL2.out j (by omega) hjL (by omega)
        have hlt : ∀ h, (S[j]'h).toNat = c := fun h => hc
        have HT1 : Hid (str (TX (j + 1)) = .string (((⟨(TX j).toArray⟩ : ByteArray) ++ ⟨#[32]⟩) ++ ⟨(Lib.decDigits n).toArray⟩)) := HTN.out j (by omega) hjL
        clear hc
        go_wp2_with (first
          | (go_at_call 38; refine (HSH.out _).mono ?_; rintro e w5 ⟨rfl, rfl⟩)
          | (go_at_call 39; refine (HDN.out _).mono ?_; rintro e w6 ⟨rfl, hb6⟩; have HB6 : Hid (Below w1.heap.size w1 w6) := HB.out.trans (hb6.mono hz); clear hb6))
        exact ⟨⟨j + 1, by go_num, by omega, HT1.out.symm, HB6.out⟩, by simp [intOf]; omega⟩
    · obtain rfl : j = L := by omega
      go_wp2_with (go_at_call 38; refine (HSH.out _).mono ?_; rintro e w5 ⟨rfl, rfl⟩)
      go_ret2
      exact ⟨rfl, HB1.out.trans (HB.out.mono (by omega))⟩
end Go.Proofs.YtobkehlkopkaeaaDoor
