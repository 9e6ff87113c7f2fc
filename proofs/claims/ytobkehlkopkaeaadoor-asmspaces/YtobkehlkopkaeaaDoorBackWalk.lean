/- AsmBack: its walk; no statement is proved in this text. -/
import Derived.Test.YtobkehlkopkaeaaDoorRoundQ
import Derived.Test.YtobkehlkopkaeaaDoorLoop2
namespace Go.Proofs.YtobkehlkopkaeaaDoor
open Go.ChangeShapes Go.WideShapes Go.ChangeAt Go.RowKit
set_option maxRecDepth 100000

theorem line_len {i : In} (h : isI i = true) : (lineF i).length ≤ 80 := by
  obtain ⟨h1, h2, h3, h4, h5, h6, h7⟩ := isI_out h
  have hp : (256 : Int) ^ nb i.op.toNat ≤ 65536 := by
    have hk : i.op.toNat < 21 := by omega
    rcases cls i.op.toNat hk with ⟨_, c2⟩ | ⟨_, c2⟩ | ⟨_, c2⟩ | ⟨_, c2⟩ | ⟨_, c2⟩ <;> rw [c2] <;> decide
  have hA := Lib.itoa_length_le i.a (by omega) (by omega)
  have hB := Lib.itoa_length_le i.b (by omega) (by omega)
  have hN := Lib.itoa_length_le i.n (by omega) (by omega)
  have hm := nm_le i.op.toNat (by omega)
  unfold lineF
  simp only [List.length_append]
  have e1 : (if 0 < rg i.op.toNat then [32, 114] ++ Lib.itoa i.a else []).length ≤ 23 := by split <;> simp <;> omega
  have e2 : (if 1 < rg i.op.toNat then [32, 114] ++ Lib.itoa i.b else []).length ≤ 23 := by split <;> simp <;> omega
  have e3 : (if 0 < fNums i.op.toNat then [32] ++ Lib.itoa i.n else []).length ≤ 23 := by split <;> simp <;> omega
  omega
theorem text_len : ∀ xs : List In, (∀ i ∈ xs, isI i = true) → (textOf xs).length ≤ 81 * xs.length
  | [], _ => by simp [textOf]
  | i :: xs, h => by
    have ih := text_len xs (fun j hj => h j (by simp [hj]))
    have hi := line_len (h i (by simp))
    have e : textOf (i :: xs) = (lineF i ++ [10]) ++ textOf xs := by unfold textOf; simp
    rw [e]
    simp only [List.length_append, List.length_cons, List.length_nil]
    omega
theorem text_next {xs : List In} {k : Nat} (hk : k < xs.length) : textOf (xs.take (k + 1)) = (textOf (xs.take k) ++ lineF xs[k]) ++ [10] := by
  unfold textOf
  rw [← List.take_append_getElem hk, List.flatMap_append]
  simp

set_option maxHeartbeats 1600000 in
theorem back_walk (w : World) (he : Env w) (l : Bs) (hl : l.length ≤ maxLen) : Calls Tryd.prog 5 #[str l] w fun e w' => e = .returned (.bool true) ∧ Below w.heap.size w w' := by
  have HE : Hid (Env w) := he
  have HLP : Hid (∀ w, Env w → Calls Tryd.prog 8 #[] w fun e w' => e = .returned (.bool true) ∧ Below w.heap.size w w') := fun w he => loop_ok w he
  have HLN : Hid (Calls Tryd.prog 11 #[str l] w fun e w' => ∃ v, e = .returned (.tuple #[v, i64 (alE l)]) ∧ w'.ownsRow w.heap.size 9 1 v (alL l).length (((alL l).map lineF).map str) ∧ Below w.heap.size w w') := lines_ok w he l
  have hsz := bz l
  unfold maxLen at hl
  clear he
  by_cases h6 : 600 < l.length
  · clear HLN
    go_enter Tryd.func5, Tryd.ntmps5
    go_wp2_with fail
    refine (HLP.out _ HE.out).mono ?_
    rintro e w1 ⟨rfl, hb1⟩
    have HB1 : Hid (Below w.heap.size w w1) := hb1
    clear hb1
    go_wp2_with fail
    go_ret
    exact ⟨rfl, HB1.out⟩
  · by_cases hE : alE l = 0
    · have hal : allO l = some (alL l) ∧ l.length ≤ 256 := by
        unfold alE at hE
        unfold alL
        split at hE
        · cases hE
        · rename_i h256
          rw [if_neg h256]
          cases h : allO l with
          | none => rw [h] at hE; simp at hE
          | some xs => exact ⟨rfl, by omega⟩
      obtain ⟨hI, hj⟩ := allO_join hal.1
      obtain ⟨hrd, hpl⟩ := back_read hI (by rw [hj]; exact hal.2)
      rw [hj] at hrd
      have h256 := alL_len l
      rw [hE] at HLN
      clear hal hj hE
      generalize alL l = xs at *
      have htl := text_len xs hI
      have HRD : Hid (∀ w, Env w → Calls Tryd.prog 9 #[str (textOf xs)] w fun e w' => e = .returned (.tuple #[str l, i64 0]) ∧ Below w.heap.size w w') := fun w he => by
        have := read_ok w he (textOf xs) (by omega) hpl
        rw [hrd] at this
        exact this
      have HTL : Hid (∀ k, (textOf (xs.take k)).length ≤ 81 * 256) := fun k => by
        have := text_len (xs.take k) (fun i hi => hI i (List.take_subset k xs hi))
        have : (xs.take k).length ≤ xs.length := by rw [List.length_take]; omega
        omega
      have HI : Hid (∀ i ∈ xs, isI i = true) := hI
      obtain ⟨NX, hNX⟩ : ∃ NX, xs.length = NX := ⟨_, rfl⟩
      have HNX : Hid (xs.length = NX) := hNX
      rw [hNX] at HLN h256
      clear hI hrd hpl htl hNX
      go_enter Tryd.func5, Tryd.ntmps5
      go_wp2_with fail
      refine HLN.out.mono ?_
      rintro e w1 ⟨v, rfl, ho1, hb1⟩
      obtain ⟨ao, cap, rfl, hws, _⟩ := own_words ho1
      have HB1 : Hid (Below w.heap.size w w1) := hb1
      have hz1 := hb1.size
      have HWS : Hid (WSl w1 ao (xs.map lineF)) := hws
      clear ho1 hb1 hws
      go_wp2_with fail
      go_loopw [5, 29] (fun v i wr => ∃ k : Nat, i = i64 k ∧ k ≤ NX ∧ v = str (textOf (xs.take k)) ∧ wr = w1) (fun _ i _ => NX - (intOf i).toNat)
      case atStart => exact ⟨0, rfl, by omega, rfl, rfl⟩
      case round =>
        obtain ⟨k, rfl, hk, rfl, rfl⟩ := hrel
        by_cases hkN : k < NX
        · have hkx : k < xs.length := by rw [HNX.out]; exact hkN
          obtain ⟨b, off, rfl, hbl, c0⟩ := HWS.out.at (k := k) (by rw [List.length_map]; exact hkx)
          rw [List.getElem_map] at c0
          have ht := HTL.out k
          have hll := line_len (HI.out _ (List.getElem_mem hkx))
          have HTN : Hid (str (textOf (xs.take (k + 1))) = .string (((⟨(textOf (xs.take k)).toArray⟩ : ByteArray) ++ ⟨(lineF xs[k]).toArray⟩) ++ ⟨#[10]⟩)) := (by
            rw [text_next hkx]
            refine congrArg Value.string ?_
            apply ByteArray.ext
            simp : str (textOf (xs.take (k + 1))) = .string (((⟨(textOf (xs.take k)).toArray⟩ : ByteArray) ++ ⟨(lineF xs[k]).toArray⟩) ++ ⟨#[10]⟩))
          have hs1 := bz (textOf (xs.take k))
          have hs2 := bz (lineF xs[k])
          go_wp2_with fail
          exact ⟨⟨k + 1, by go_num, by omega, HTN.out.symm, trivial⟩, by simp [intOf]; omega⟩
        · obtain rfl : k = NX := by omega
          have hT : xs.take k = xs := List.take_of_length_le (by rw [HNX.out]; exact Nat.le_refl _)
          rw [hT]
          clear hT
          go_wp2_with fail
          refine (HRD.out _ (HE.out.below HB1.out)).mono ?_
          rintro e w2 ⟨rfl, hb2⟩
          have HB2 : Hid (Below w.heap.size w w2) := HB1.out.trans (hb2.mono hz1)
          have hz2 := HB2.out.size
          clear hb2
          go_wp2_with (go_at_call 8; refine (HLP.out _ (HE.out.below HB2.out)).mono ?_; rintro e w3 ⟨rfl, hb3⟩; have HB3 : Hid (Below w.heap.size w w3) := HB2.out.trans (hb3.mono hz2); clear hb3)
          go_ret
          exact ⟨rfl, HB3.out⟩
    · have hnil := alE_ne l hE
      rw [hnil] at HLN
      have hEb : (alE l != 0) = true := by simpa using hE
      clear hnil hE
      generalize alE l = E at *
      go_enter Tryd.func5, Tryd.ntmps5
      go_wp2_with fail
      refine HLN.out.mono ?_
      rintro e w1 ⟨v, rfl, ho1, hb1⟩
      obtain ⟨ao, cap, rfl⟩ := own_sl ho1
      have HB1 : Hid (Below w.heap.size w w1) := hb1
      have hz1 := hb1.size
      clear ho1 hb1
      go_wp2_with (go_at_call 8; refine (HLP.out _ (HE.out.below HB1.out)).mono ?_; rintro e w3 ⟨rfl, hb3⟩; have HB3 : Hid (Below w.heap.size w w3) := HB1.out.trans (hb3.mono hz1); clear hb3)
      go_ret
      exact ⟨rfl, HB3.out⟩
end Go.Proofs.YtobkehlkopkaeaaDoor
