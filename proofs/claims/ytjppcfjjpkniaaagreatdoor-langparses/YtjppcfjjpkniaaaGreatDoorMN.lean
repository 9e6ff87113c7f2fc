/- Texts Nt in one; no statement is proved in this text. -/
import Derived.Test.YtjppcfjjpkniaaaGreatDoorMW
namespace Go.Proofs.YtjppcfjjpkniaaaGreatDoor
open Go.ChangeShapes Go.WideShapes Go.ChangeAt Go.RowKit Go.Deep
attribute [local go_sem ↓] Go.wp_at_zero Go.wp_at_succ
set_option maxRecDepth 100000

theorem trC_len (c : UInt8) : (trC c).length ≤ 11 := by unfold trC; split <;> simp
theorem trN_len (l : Bs) : (trN l).length ≤ 11 * l.length := by
  induction l with
  | nil => simp [trN]
  | cons c l ih =>
    have : trN (c :: l) = trC c ++ trN l := rfl
    rw [this, List.length_append, List.length_cons]
    have := trC_len c
    omega
theorem trN_snoc (l : Bs) (c : UInt8) : trN (l ++ [c]) = trN l ++ trC c := by rw [trN_app]; simp [trN]
theorem trM_size {m : ByteArray} {l : Bs} (h : m.data.toList = trN l) : m.size ≤ 11 * l.length := by
  have h1 : m.data.toList.length = m.size := Array.length_toList
  rw [← h1, h]; exact trN_len l
theorem trM_nl (s m : ByteArray) (k : Nat) (h : k < s.size) (hm : m.data.toList = trN (s.data.toList.take k)) (hc : s[k] = 10) : (m ++ (⟨#[32, 59, 120, 32, 101, 110, 100, 10, 32, 59, 10]⟩ : ByteArray)).data.toList = trN (s.data.toList.take (k + 1)) := by
  rw [take_snoc s k h, trN_snoc, ← hm, hc]
  simp [trC]
theorem trM_no (s m : ByteArray) (k : Nat) (h : k < s.size) (hm : m.data.toList = trN (s.data.toList.take k)) (hc : s[k] ≠ 10) : (m ++ (⟨#[s[k]]⟩ : ByteArray)).data.toList = trN (s.data.toList.take (k + 1)) := by
  rw [take_snoc s k h, trN_snoc, ← hm]
  simp [trC, hc]
theorem trM_cat (s m t : ByteArray) (hm : m.data.toList = trN s.data.toList) : m ++ (⟨#[59]⟩ : ByteArray) ++ t = ⟨(trN s.data.toList ++ 59 :: t.data.toList).toArray⟩ := by
  apply ByteArray.ext
  rw [← hm]
  simp
theorem trM_11 (m : ByteArray) : (m ++ (⟨#[32, 59, 120, 32, 101, 110, 100, 10, 32, 59, 10]⟩ : ByteArray)).size = m.size + 11 := by rw [ByteArray.size_append]; rfl
theorem trM_1 (m : ByteArray) (c : UInt8) : (m ++ (⟨#[c]⟩ : ByteArray)).size = m.size + 1 := by rw [ByteArray.size_append]; rfl
theorem sl_one (s : ByteArray) (k : Nat) (h : k < s.size) (W : World) : (Instr.slice 9 (.string s) (some (.int .i64 (k : Int))) (some (.int .i64 ((k : Int) + 1))) none).run Tryz.prog W = .ok (.string ⟨#[s[k]]⟩) W := by
  have h1 := sl_lk W s k (k + 1) (by omega) (by omega)
  have h2 : (s.data.toList.drop k).take (k + 1 - k) = [s[k]] := by
    rw [List.drop_eq_getElem_cons (by simpa using h), show k + 1 - k = 1 by omega]; rfl
  rw [h2] at h1
  exact h1
theorem i10 {c : UInt8} (h : c ≠ 10) : ((c.toNat : Int) == 10) = false := by
  have : c.toNat ≠ 10 := fun e => h (by rw [← UInt8.toNat_inj]; exact e)
  have h2 : (c.toNat : Int) ≠ 10 := by omega
  simpa using h2
theorem ij0 {i j : Nat} (h : j = 0 ↔ i = 0) : ∃ B, ((i : Int) == 0) = B ∧ ((j : Int) == 0) = B := by
  by_cases hi : i = 0
  · have hj := h.2 hi
    subst hi hj
    exact ⟨true, rfl, rfl⟩
  · have hj : j ≠ 0 := fun e => hi (h.1 e)
    have h1 : (i : Int) ≠ 0 := by omega
    have h2 : (j : Int) ≠ 0 := by omega
    exact ⟨false, by simpa using h1, by simpa using h2⟩
set_option maxHeartbeats 25600000 in
theorem notes_core (s t : ByteArray) (w : World) (he : Env w) : Calls Tryz.prog 7 #[.string s, .string t] w fun e w' => e = .returned (.bool true) ∧ Below w.heap.size w w' := by
  have HEA : Hid (∀ w', Below w.heap.size w w' → Calls Tryz.prog 8 #[] w' fun e w'' => e = .returned (.bool true) ∧ Below w'.heap.size w' w'') := fun w' hb => each_ok w' (he.below hb)
  have HE := hid he
  have HBr : Hid (Below w.heap.size w w) := Below.refl _ _
  clear he
  by_cases h1 : 600 < s.size
  · go_enter Tryz.func7, Tryz.ntmps7
    go_wp2_with fail
    refine (HEA.out w HBr.out).mono ?_
    rintro e w1 ⟨rfl, hb1⟩
    go_wp2_with fail
    go_ret
    exact ⟨rfl, hb1⟩
  by_cases h2 : 100 < t.size
  · go_enter Tryz.func7, Tryz.ntmps7
    go_wp2_with fail
    refine (HEA.out w HBr.out).mono ?_
    rintro e w1 ⟨rfl, hb1⟩
    go_wp2_with fail
    go_ret
    exact ⟨rfl, hb1⟩
  have hsl : s.data.toList.length = s.size := Array.length_toList
  have htl : t.data.toList.length = t.size := Array.length_toList
  have HSL := hid hsl
  have HTL := hid htl
  have HPA : Hid (Calls Tryz.prog 9 #[.string s] w fun e w' => (∃ a c, e = .returned (.tuple #[.slice a (parseR s.data.toList).1.length c, i64 ((parseR s.data.toList).2 : Nat)]) ∧ Sds w' (fun k => w.heap.size ≤ k) (parseR s.data.toList).1 (.slice a (parseR s.data.toList).1.length c)) ∧ Below w.heap.size w w') := lparse_ok s.data.toList w HE.out (by omega)
  clear hsl htl
  go_enter Tryz.func7, Tryz.ntmps7
  go_wp2
  go_loop [5, 6] (fun u v => ∃ (k : Nat) (m : ByteArray), k ≤ s.size ∧ u = .string m ∧ v = .int .i64 k ∧ m.size ≤ 6600 ∧ Hid (m.data.toList = trN (s.data.toList.take k))) (fun u v => s.size - (intOf v).toNat)
  case atStart => exact ⟨0, _, Nat.zero_le _, rfl, rfl, by decide, by show _ = _; rfl⟩
  case round =>
    obtain ⟨k, m, hk, rfl, rfl, hms, HM⟩ := hrel
    by_cases hlt : k < s.size
    · have hms2 : m.size ≤ 11 * k := by
        have := trM_size HM.out
        rw [List.length_take, HSL.out] at this
        omega
      by_cases hc : s[k] = 10
      · have hcb : ((s[k].toNat : Int) == 10) = true := by rw [hc]; rfl
        have HM2 : Hid ((m ++ (⟨#[32, 59, 120, 32, 101, 110, 100, 10, 32, 59, 10]⟩ : ByteArray)).data.toList = trN (s.data.toList.take (k + 1))) := trM_nl s m k hlt HM.out hc
        clear hc
        go_wp2
        go_round
        case rel => exact ⟨k + 1, _, by omega, rfl, by go_num, by rw [trM_11]; omega, HM2⟩
        case measure => simp [intOf]; omega
      · have hcb := i10 hc
        have hsl := sl_one s k hlt
        have HM2 : Hid ((m ++ (⟨#[s[k]]⟩ : ByteArray)).data.toList = trN (s.data.toList.take (k + 1))) := trM_no s m k hlt HM.out hc
        clear hc
        go_wp2
        go_round
        case rel => exact ⟨k + 1, _, by omega, rfl, by go_num, by rw [trM_1]; omega, HM2⟩
        case measure => simp [intOf]; omega
    · have HM3 : Hid (m.data.toList = trN s.data.toList) := by
        show _ = _
        have := HM.out
        rw [List.take_of_length_le (by rw [HSL.out]; omega)] at this
        exact this
      clear HM
      go_wp2
      go_loop [7] (fun u => ∃ j : Nat, j ≤ t.size ∧ u = .int .i64 j ∧ Hid (10 ∉ t.data.toList.take j)) (fun u => t.size - (intOf u).toNat)
      case atStart => exact ⟨0, Nat.zero_le _, rfl, by show _ ∉ _; simp⟩
      case round =>
        obtain ⟨j, hj, rfl, HN⟩ := hrel
        by_cases hlt2 : j < t.size
        · by_cases hc : t[j] = 10
          · have hcb : ((t[j].toNat : Int) == 10) = true := by rw [hc]; rfl
            clear hc
            go_wp2_with fail
            refine (HEA.out w HBr.out).mono ?_
            rintro e w1 ⟨rfl, hb1⟩
            go_wp2_with fail
            go_ret
            exact ⟨rfl, hb1⟩
          · have hcb := i10 hc
            have HN2 : Hid (10 ∉ t.data.toList.take (j + 1)) := by
              show _ ∉ _
              rw [take_snoc t j hlt2]
              have := HN.out
              simp [this, Ne.symm hc]
            clear hc
            go_wp2
            go_round
            case rel => exact ⟨j + 1, by omega, by go_num, HN2⟩
            case measure => simp [intOf]; omega
        · have HN2 : (10 : UInt8) ∉ t.data.toList := by
            have := HN.out
            rw [List.take_of_length_le (by rw [HTL.out]; omega)] at this
            exact this
          have HPC : Hid (∀ w', Below w.heap.size w w' → Calls Tryz.prog 9 #[.string (m ++ (⟨#[59]⟩ : ByteArray) ++ t)] w' fun e w'' => (∃ a' c, e = .returned (.tuple #[.slice a' (parseR (trN s.data.toList ++ 59 :: t.data.toList)).1.length c, i64 ((parseR (trN s.data.toList ++ 59 :: t.data.toList)).2 : Nat)]) ∧ Sds w'' (fun k => w'.heap.size ≤ k) (parseR (trN s.data.toList ++ 59 :: t.data.toList)).1 (.slice a' (parseR (trN s.data.toList ++ 59 :: t.data.toList)).1.length c)) ∧ Below w'.heap.size w' w'') := fun w' hb => by
            rw [trM_cat s m t HM3.out]
            refine lparse_ok _ w' (HE.out.below hb) ?_
            have h3 := trN_len s.data.toList
            have h4 := HSL.out
            have h5 := HTL.out
            rw [List.length_append, List.length_cons]
            omega
          obtain ⟨hq1, hq2⟩ := notes_eq s.data.toList t.data.toList HN2
          have hcn := parse_cnt s.data.toList
          have hty := parse_ty s.data.toList
          generalize parseR s.data.toList = X at *
          generalize parseR (trN s.data.toList ++ 59 :: t.data.toList) = Z at *
          obtain ⟨x, i⟩ := X
          obtain ⟨z, k2⟩ := Z
          simp only at hq1 hq2 hcn hty
          subst hq1
          obtain ⟨B, hb1, hb2⟩ := ij0 hq2
          have HCN : Hid (cntL z ≤ 10000) := by show _ ≤ _; omega
          have HTY := hid hty
          clear hq2 hcn hty HN2 HN
          go_wp2_with fail
          refine HPA.out.mono ?_
          rintro e w1 ⟨⟨ax, cx, rfl, hsx⟩, hbx⟩
          have HB1 := hid hbx
          have HSX : Hid (Sds w1 (fun _ => True) z (.slice ax z.length cx)) := hsx.mono fun _ _ _ => trivial
          clear hsx hbx HPA
          go_wp2_with fail
          refine (HPC.out w1 HB1.out).mono ?_
          rintro e w2 ⟨⟨az, cz, rfl, hsz⟩, hbz⟩
          have HB2 : Hid (Below w.heap.size w w2) := HB1.out.trans (hbz.mono HB1.out.size)
          have HSX2 := hid (HSX.out.under hbz)
          have HSZ : Hid (Sds w2 (fun _ => True) z (.slice az z.length cz)) := hsz.mono fun _ _ _ => trivial
          clear hsz hbz HPC HB1 HSX
          have HR1 : Hid (Calls Tryz.prog 12 #[.slice ax z.length cx] w2 fun e w' => ∃ a c, e = .returned (.slice a z.length c) ∧ Below w2.heap.size w2 w' ∧ Sds w' (fun _ => True) z (.slice a z.length c)) := lref_ok z w2 _ HSX2.out HCN.out HTY.out
          cases B
          all_goals
            go_wp2_with fail
            refine HR1.out.mono ?_
            rintro e w3 ⟨ar, cr, rfl, hb3, hs3⟩
            have HB3 : Hid (Below w.heap.size w w3) := HB2.out.trans (hb3.mono HB2.out.size)
            have HS3 := hid hs3
            have HSZ3 := hid (HSZ.out.under hb3)
            have HR2 := hid (lref_ok z w3 _ HSZ3.out HCN.out HTY.out)
            clear hb3 hs3 HR1 HSZ HSX2 HB2
            go_simp
            go_wp2_with fail
            refine HR2.out.mono ?_
            rintro e w4 ⟨aq, cq, rfl, hb4, hs4⟩
            have HB4 : Hid (Below w.heap.size w w4) := HB3.out.trans (hb4.mono HB3.out.size)
            have HSM := hid (lsame_ok z w4 _ _ (HS3.out.under hb4) hs4)
            clear hb4 hs4 HR2 HS3 HSZ3 HB3
            go_simp
            go_wp2_with fail
            refine HSM.out.mono ?_
            rintro e w5 ⟨rfl, hb5⟩
            have HB5 : Hid (Below w.heap.size w w5) := HB4.out.trans (hb5.mono HB4.out.size)
            clear hb5 HSM HB4
            go_simp
            go_wp2_with fail
            refine (HEA.out w5 HB5.out).mono ?_
            rintro e w6 ⟨rfl, hb6⟩
            have HB6 : Hid (Below w.heap.size w w6) := HB5.out.trans (hb6.mono HB5.out.size)
            clear hb6
            go_simp
            go_wp2_with fail
            go_ret
            exact ⟨rfl, HB6.out⟩
end Go.Proofs.YtjppcfjjpkniaaaGreatDoor
