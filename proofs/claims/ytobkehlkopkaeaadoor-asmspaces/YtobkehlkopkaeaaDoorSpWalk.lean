/- AsmSpaces: its walk; no statement is proved in this text. -/
import Derived.Test.YtobkehlkopkaeaaDoorBackWalk
namespace Go.Proofs.YtobkehlkopkaeaaDoor
open Go.ChangeShapes Go.WideShapes Go.ChangeAt Go.RowKit
set_option maxRecDepth 100000

def spLine (note : Bs) (i : In) : Bs := [9, 32] ++ lineF i ++ [32] ++ 59 :: note
def spText (note : Bs) (xs : List In) : Bs := [32, 9, 59, 10] ++ xs.flatMap (fun i => spLine note i ++ [10, 10])
theorem sp_semi {note : Bs} {i : In} (h : isI i = true) : semi (spLine note i) = [9, 32] ++ (lineF i ++ [32]) := by
  unfold spLine
  rw [semi_some (l := [9, 32] ++ lineF i ++ [32])]
  · simp
  · intro b hb
    simp only [List.mem_append, List.mem_cons, List.not_mem_nil, or_false] at hb
    rcases hb with ((rfl | rfl) | hb) | rfl
    · decide
    · decide
    · exact (line_mem h b hb).1
    · decide
theorem sp_split {note : Bs} {i : In} (h : isI i = true) : splitF (spLine note i) = wordsOf i :=
  split_gen h (pre := [9, 32]) (tail := [32]) (by decide) (Or.inr ⟨[], rfl, rfl⟩) (sp_semi h)
theorem sp_lns {note : Bs} (hn : ∀ b ∈ note, b ≠ 10) : ∀ xs : List In, (∀ i ∈ xs, isI i = true) → lns (xs.flatMap (fun i => spLine note i ++ [10, 10])) = xs.flatMap (fun i => [spLine note i, []]) ++ [[]]
  | [], _ => rfl
  | i :: xs, h => by
    have hi := line_mem (h i (by simp))
    have hl : ∀ b ∈ spLine note i, b ≠ 10 := by
      intro b hb
      unfold spLine at hb
      simp only [List.mem_append, List.mem_cons, List.not_mem_nil, or_false] at hb
      rcases hb with (((rfl | rfl) | hb) | rfl) | (rfl | hb)
      all_goals first
        | decide
        | exact (hi b hb).2.1
        | exact hn b hb
    have e : (i :: xs).flatMap (fun i => spLine note i ++ [10, 10]) = spLine note i ++ 10 :: ([] ++ 10 :: xs.flatMap (fun i => spLine note i ++ [10, 10])) := by simp
    rw [e, lns_line _ _ hl, lns_line [] _ (by simp), sp_lns hn xs (fun j hj => h j (by simp [hj]))]
    simp
theorem sp_text {note : Bs} (hn : ∀ b ∈ note, b ≠ 10) {xs : List In} (h : ∀ i ∈ xs, isI i = true) : lns (spText note xs) = [32, 9, 59] :: (xs.flatMap (fun i => [spLine note i, []]) ++ [[]]) := by
  unfold spText
  rw [show ([32, 9, 59, 10] : Bs) ++ xs.flatMap (fun i => spLine note i ++ [10, 10]) = [32, 9, 59] ++ 10 :: xs.flatMap (fun i => spLine note i ++ [10, 10]) from rfl, lns_line _ _ (by decide), sp_lns hn xs h]
theorem sp_rows {note : Bs} : ∀ xs : List In, (∀ i ∈ xs, isI i = true) → ((xs.flatMap (fun i => [spLine note i, []])).map splitF).filter (fun ws => !ws.isEmpty) = xs.map wordsOf
  | [], _ => rfl
  | i :: xs, h => by
    have ih := sp_rows (note := note) xs (fun j hj => h j (by simp [hj]))
    simp only [List.flatMap_cons, List.cons_append, List.nil_append, List.map_cons, sp_split (h i (by simp)), List.filter_cons]
    rw [ih]
    rfl
theorem sp_read {note : Bs} (hn : ∀ b ∈ note, b ≠ 10) {xs : List In} (hI : ∀ i ∈ xs, isI i = true) (hl : (xs.flatMap plain).length ≤ 256) : readR (spText note xs) = (xs.flatMap plain, 0) ∧ Pln (spText note xs) := by
  have hln := sp_text hn hI
  refine ⟨read_plain ?_ hI hl, ?_⟩
  · unfold RowsAre rowsF
    rw [hln, List.map_cons, List.map_append, List.filter_cons, List.filter_append, sp_rows xs hI]
    simp [splitF, semi, wordsF, isSp, sp]
  · intro l hm b hb
    rw [hln] at hm
    rcases List.mem_cons.1 hm with rfl | hm
    · revert b; decide
    rcases List.mem_append.1 hm with hm | hm
    · obtain ⟨i, hi, hm⟩ := List.mem_flatMap.1 hm
      simp only [List.mem_cons, List.not_mem_nil, or_false] at hm
      rcases hm with rfl | rfl
      · rw [sp_semi (hI i hi)] at hb
        simp only [List.mem_append, List.mem_cons, List.not_mem_nil, or_false] at hb
        rcases hb with (rfl | rfl) | hb | rfl
        all_goals first
          | decide
          | exact (line_mem (hI i hi) b hb).2.2
      · simp [semi] at hb
    · obtain rfl : l = [] := by simpa using hm
      simp [semi] at hb
theorem sp_len {note : Bs} (hn : note.length ≤ 100) : ∀ xs : List In, (∀ i ∈ xs, isI i = true) → (spText note xs).length ≤ 4 + 190 * xs.length
  | [], _ => by simp [spText]
  | i :: xs, h => by
    have ih := sp_len hn xs (fun j hj => h j (by simp [hj]))
    have hi := line_len (h i (by simp))
    unfold spText spLine at ih ⊢
    simp only [List.flatMap_cons, List.length_append, List.length_cons, List.length_nil] at ih ⊢
    omega
theorem sp_next {note : Bs} {xs : List In} {k : Nat} (hk : k < xs.length) : spText note (xs.take (k + 1)) = ((((spText note (xs.take k) ++ [9, 32]) ++ lineF xs[k]) ++ [32, 59]) ++ note) ++ [10, 10] := by
  unfold spText spLine
  rw [← List.take_append_getElem hk, List.flatMap_append]
  simp

set_option maxHeartbeats 1600000 in
theorem sp_walk (w : World) (he : Env w) (l note : Bs) (S : ByteArray) (hS : S.size = note.length) (hSb : ∀ i (hi : i < note.length) h, (S[i]'h).toNat = note[i].toNat) (hSe : S = ⟨note.toArray⟩) (hl : l.length ≤ maxLen) (hno : note.length ≤ maxLen) : Calls Tryd.prog 7 #[str l, .string S] w fun e w' => e = .returned (.bool true) ∧ Below w.heap.size w w' := by
  have HE : Hid (Env w) := he
  have HSE : Hid (S = ⟨note.toArray⟩) := hSe
  have HSB : Hid (∀ i (hi : i < note.length) h, (S[i]'h).toNat = note[i].toNat) := hSb
  have HLP : Hid (∀ w, Env w → Calls Tryd.prog 8 #[] w fun e w' => e = .returned (.bool true) ∧ Below w.heap.size w w') := fun w he => loop_ok w he
  have HLN : Hid (Calls Tryd.prog 11 #[str l] w fun e w' => ∃ v, e = .returned (.tuple #[v, i64 (alE l)]) ∧ w'.ownsRow w.heap.size 9 1 v (alL l).length (((alL l).map lineF).map str) ∧ Below w.heap.size w w') := lines_ok w he l
  have hsz := bz l
  obtain ⟨NN, hNN⟩ : ∃ NN, note.length = NN := ⟨_, rfl⟩
  have HNN : Hid (note.length = NN) := hNN
  rw [hNN] at hS hno
  unfold maxLen at hl hno
  clear he hSe hSb hNN
  by_cases h6 : 256 < l.length
  · clear HLN
    go_enter Tryd.func7, Tryd.ntmps7
    go_wp2_with fail
    refine (HLP.out _ HE.out).mono ?_
    rintro e w1 ⟨rfl, hb1⟩
    have HB1 : Hid (Below w.heap.size w w1) := hb1
    clear hb1
    go_wp2_with fail
    go_ret
    exact ⟨rfl, HB1.out⟩
  by_cases h7 : 100 < NN
  · clear HLN
    go_enter Tryd.func7, Tryd.ntmps7
    go_wp2_with fail
    refine (HLP.out _ HE.out).mono ?_
    rintro e w1 ⟨rfl, hb1⟩
    have HB1 : Hid (Below w.heap.size w w1) := hb1
    clear hb1
    go_wp2_with fail
    go_ret
    exact ⟨rfl, HB1.out⟩
  go_enter Tryd.func7, Tryd.ntmps7
  go_wp2_with fail
  go_loopw [5] (fun i wr => ∃ k : Nat, i = i64 k ∧ k ≤ NN ∧ (∀ b ∈ note.take k, b ≠ 10) ∧ w = wr) (fun i _ => NN - (intOf i).toNat)
  case atStart => exact ⟨0, rfl, by omega, by simp, rfl⟩
  case round =>
    obtain ⟨k, rfl, hk, hne, rfl⟩ := hrel
    by_cases hkN : k < NN
    · have hkx : k < note.length := by rw [HNN.out]; exact hkN
      have hby := HSB.out k hkx
      have hlt := note[k].toNat_lt
      by_cases hb : note[k] = 10
      · have hx : ∀ h, (S[k]'h).toNat = 10 := fun h => by rw [hby h, hb]; rfl
        clear hby hlt hne hb HLN
        go_wp2_with fail
        refine (HLP.out _ HE.out).mono ?_
        rintro e w1 ⟨rfl, hb1⟩
        have HB1 : Hid (Below w.heap.size w w1) := hb1
        clear hb1
        go_wp2_with fail
        go_ret
        exact ⟨rfl, HB1.out⟩
      · have HNE : Hid (∀ b ∈ note.take (k + 1), b ≠ 10) := fun b hm => by
          rw [← List.take_append_getElem hkx] at hm
          rcases List.mem_append.1 hm with hm | hm
          · exact hne b hm
          · obtain rfl : b = note[k] := by simpa using hm
            exact hb
        have hbn : ¬ note[k].toNat = 10 := fun h => hb (by rw [← UInt8.toNat_inj]; exact h)
        clear hne hb
        generalize note[k].toNat = y at *
        have hyb : ((y : Int) == 10) = false := by simp; omega
        go_wp2_with fail
        exact ⟨⟨k + 1, by go_num, by omega, HNE.out, trivial⟩, by simp [intOf]; omega⟩
    · obtain rfl : k = NN := by omega
      have hnl : ∀ b ∈ note, b ≠ 10 := by rw [List.take_of_length_le (by rw [HNN.out]; exact Nat.le_refl _)] at hne; exact hne
      clear hne
      by_cases hE : alE l = 0
      · have hal : allO l = some (alL l) ∧ l.length ≤ 256 := by
          unfold alE at hE
          unfold alL
          split at hE
          · cases hE
          · rename_i h256
            rw [if_neg h256]
            cases h : allO l with
            | none => rw [h] at hE; simp at hE
            | some xs => exact ⟨rfl, by omega⟩
        obtain ⟨hI, hj⟩ := allO_join hal.1
        obtain ⟨hrd, hpl⟩ := sp_read hnl hI (by rw [hj]; exact hal.2)
        rw [hj] at hrd
        have h256 := alL_len l
        rw [hE] at HLN
        clear hal hj hE hnl
        generalize alL l = xs at *
        have htl := sp_len (note := note) (by rw [HNN.out]; omega) xs hI
        have HRD : Hid (∀ w, Env w → Calls Tryd.prog 9 #[str (spText note xs)] w fun e w' => e = .returned (.tuple #[str l, i64 0]) ∧ Below w.heap.size w w') := fun w he => by
          have := read_ok w he (spText note xs) (by omega) hpl
          rw [hrd] at this
          exact this
        have HTL : Hid (∀ j, (spText note (xs.take j)).length ≤ 50000) := fun j => by
          have := sp_len (note := note) (by rw [HNN.out]; omega) (xs.take j) (fun i hi => hI i (List.take_subset j xs hi))
          have : (xs.take j).length ≤ xs.length := by rw [List.length_take]; omega
          omega
        have HI : Hid (∀ i ∈ xs, isI i = true) := hI
        obtain ⟨NX, hNX⟩ : ∃ NX, xs.length = NX := ⟨_, rfl⟩
        have HNX : Hid (xs.length = NX) := hNX
        rw [hNX] at HLN h256
        clear hI hrd hpl htl hNX
        go_wp2_with fail
        refine HLN.out.mono ?_
        rintro e w1 ⟨v, rfl, ho1, hb1⟩
        obtain ⟨ao, cap, rfl, hws, _⟩ := own_words ho1
        have HB1 : Hid (Below w.heap.size w w1) := hb1
        have hz1 := hb1.size
        have HWS : Hid (WSl w1 ao (xs.map lineF)) := hws
        clear ho1 hb1 hws
        go_wp2_with fail
        go_loopw [8, 43] (fun v i wr => ∃ j : Nat, i = i64 j ∧ j ≤ NX ∧ v = str (spText note (xs.take j)) ∧ wr = w1) (fun _ i _ => NX - (intOf i).toNat)
        case atStart => exact ⟨0, rfl, by omega, rfl, rfl⟩
        case round =>
          obtain ⟨j, rfl, hj, rfl, rfl⟩ := hrel
          by_cases hjN : j < NX
          · have hjx : j < xs.length := by rw [HNX.out]; exact hjN
            obtain ⟨b, off, rfl, hbl, c0⟩ := HWS.out.at (k := j) (by rw [List.length_map]; exact hjx)
            rw [List.getElem_map] at c0
            have ht := HTL.out j
            have hll := line_len (HI.out _ (List.getElem_mem hjx))
            have HTN : Hid (str (spText note (xs.take (j + 1))) = .string ((((((⟨(spText note (xs.take j)).toArray⟩ : ByteArray) ++ ⟨#[9, 32]⟩) ++ ⟨(lineF xs[j]).toArray⟩) ++ ⟨#[32, 59]⟩) ++ S) ++ ⟨#[10, 10]⟩)) := (by
              rw [sp_next hjx, HSE.out]
              refine congrArg Value.string ?_
              apply ByteArray.ext
              simp : str (spText note (xs.take (j + 1))) = .string ((((((⟨(spText note (xs.take j)).toArray⟩ : ByteArray) ++ ⟨#[9, 32]⟩) ++ ⟨(lineF xs[j]).toArray⟩) ++ ⟨#[32, 59]⟩) ++ S) ++ ⟨#[10, 10]⟩))
            have hs1 := bz (spText note (xs.take j))
            have hs2 := bz (lineF xs[j])
            go_wp2_with fail
            exact ⟨⟨j + 1, by go_num, by omega, HTN.out.symm, trivial⟩, by simp [intOf]; omega⟩
          · obtain rfl : j = NX := by omega
            have hT : xs.take j = xs := List.take_of_length_le (by rw [HNX.out]; exact Nat.le_refl _)
            rw [hT]
            clear hT
            go_wp2_with fail
            refine (HRD.out _ (HE.out.below HB1.out)).mono ?_
            rintro e w2 ⟨rfl, hb2⟩
            have HB2 : Hid (Below w.heap.size w w2) := HB1.out.trans (hb2.mono hz1)
            have hz2 := HB2.out.size
            clear hb2
            go_wp2_with (go_at_call 8; refine (HLP.out _ (HE.out.below HB2.out)).mono ?_; rintro e w3 ⟨rfl, hb3⟩; have HB3 : Hid (Below w.heap.size w w3) := HB2.out.trans (hb3.mono hz2); clear hb3)
            go_ret
            exact ⟨rfl, HB3.out⟩
      · have hEb : (alE l != 0) = true := by simpa using hE
        clear hE hnl
        generalize alE l = E at *
        go_wp2_with fail
        refine HLN.out.mono ?_
        rintro e w1 ⟨v, rfl, ho1, hb1⟩
        have HB1 : Hid (Below w.heap.size w w1) := hb1
        have hz1 := hb1.size
        clear ho1 hb1
        go_wp2_with (go_at_call 8; refine (HLP.out _ (HE.out.below HB1.out)).mono ?_; rintro e w3 ⟨rfl, hb3⟩; have HB3 : Hid (Below w.heap.size w w3) := HB1.out.trans (hb3.mono hz1); clear hb3)
        go_ret
        exact ⟨rfl, HB3.out⟩
theorem sp_any (w : World) (he : Env w) (l note : Bs) (hl : l.length ≤ maxLen) (hn : note.length ≤ maxLen) : Calls Tryd.prog 7 #[str l, str note] w fun e w' => e = .returned (.bool true) ∧ Below w.heap.size w w' :=
  sp_walk w he l note _ (bz note) (bnth note) rfl hl hn
end Go.Proofs.YtobkehlkopkaeaaDoor
