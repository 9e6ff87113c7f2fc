/- The document's label, number and register of a word; no statement is proved in this text. -/
import Derived.Test.YtobkehlkopkaeaaDoorDa
import Derived.Test.YtobkehlkopkaeaaDoorIa
import Derived.Test.YtobkehlkopkaeaaDoorReadWalk
namespace Go.Proofs.YtobkehlkopkaeaaDoor
open Go.ChangeShapes Go.WideShapes Go.ChangeAt Go.RowKit
set_option maxRecDepth 100000

theorem d_take (s : ByteArray) (k : Nat) (h : k < s.size) : s.data.toList.take (k + 1) = s.data.toList.take k ++ [s[k]] := by
  have hk : k < s.data.toList.length := by rw [Array.length_toList]; exact h
  rw [← List.take_append_getElem hk]
  rfl
theorem d_mem (s : ByteArray) (k : Nat) (h : k < s.size) : s[k] ∈ s.data.toList := List.mem_of_getElem? (at_pos h)
def inR (lo hi : Nat) (b : UInt8) : Bool := decide (lo ≤ b.toNat ∧ b.toNat ≤ hi)
theorem within_eq (l : Bs) (m lo hi : Nat) : within l m lo hi = (decide (1 ≤ l.length ∧ l.length ≤ m) && l.all (inR lo hi)) := rfl
theorem all_snoc {l : Bs} {c : UInt8} {p : UInt8 → Bool} (h : l.all p = true) (hc : p c = true) : (l ++ [c]).all p = true := by simp [List.all_append, h, hc]
set_option maxHeartbeats 1600000 in
theorem rlabel_s (s : ByteArray) (w : World) (hs : s.size ≤ 1000000) : Calls Tryd.prog 53 #[.string s] w fun e w' => e = .returned (.bool (labB s.data.toList)) ∧ w' = w := by
  have hlen : s.data.toList.length = s.size := Array.length_toList
  have HL := hid hlen
  obtain ⟨B, hB⟩ : ∃ B, B = labB s.data.toList := ⟨_, rfl⟩
  have HBe : Hid (B = (decide (1 ≤ s.data.toList.length ∧ s.data.toList.length ≤ 12) && s.data.toList.all (inR 97 122))) := hB
  rw [← hB]
  clear hlen hB
  go_enter Tryd.func53, Tryd.ntmps53
  go_wp2
  go_loop [3] (fun u => ∃ k : Nat, k ≤ s.size ∧ u = .int .i64 k ∧ Hid ((s.data.toList.take k).all (inR 97 122) = true)) (fun u => s.size - (intOf u).toNat)
  case atStart => exact ⟨0, Nat.zero_le _, rfl, by show _ = _; rfl⟩
  case round =>
    obtain ⟨k, hk, rfl, HA⟩ := hrel
    by_cases hlt : k < s.size
    · by_cases h3 : (s[k].toNat : Int) < 97
      · have HF : Hid (B = false) := by
          show _ = _; rw [HBe.out]
          have : s.data.toList.all (inR 97 122) = false := List.all_eq_false.2 ⟨_, d_mem s k hlt, by unfold inR; simp; omega⟩
          rw [this]; simp
        go_wp2
        go_ret
        exact ⟨by rw [HF.out]; rfl, rfl⟩
      · by_cases h4 : (122 : Int) < s[k].toNat
        · have HF : Hid (B = false) := by
            show _ = _; rw [HBe.out]
            have : s.data.toList.all (inR 97 122) = false := List.all_eq_false.2 ⟨_, d_mem s k hlt, by unfold inR; simp; omega⟩
            rw [this]; simp
          go_wp2
          go_ret
          exact ⟨by rw [HF.out]; rfl, rfl⟩
        · have HA2 : Hid ((s.data.toList.take (k + 1)).all (inR 97 122) = true) := by show _ = _; rw [d_take s k hlt]; exact all_snoc HA.out (by unfold inR; simp; omega)
          go_wp2
          go_round
          case rel => exact ⟨k + 1, by omega, by go_num, HA2⟩
          case measure => simp [intOf]; omega
    · have HF : Hid (s.data.toList.all (inR 97 122) = true) := by
        show _ = _
        have := HA.out
        rwa [List.take_of_length_le (by rw [HL.out]; omega)] at this
      have HF2 : Hid (B = decide (1 ≤ s.size ∧ s.size ≤ 12)) := by show _ = _; rw [HBe.out, HF.out, HL.out, Bool.and_true]
      by_cases h1 : 0 < s.size
      · by_cases h2 : s.size < 13
        · have HF3 : Hid (B = true) := by show _ = _; rw [HF2.out]; exact decide_eq_true (by omega)
          have h1i : (0 : Int) < (s.size : Int) := by omega
          have h2i : (s.size : Int) < 13 := by omega
          go_wp2
          go_ret
          exact ⟨by rw [HF3.out]; rfl, rfl⟩
        · have HF3 : Hid (B = false) := by show _ = _; rw [HF2.out]; exact decide_eq_false (by omega)
          have h1i : (0 : Int) < (s.size : Int) := by omega
          have h2i : decide ((s.size : Int) < 13) = false := decide_eq_false (by omega)
          go_wp2
          go_ret
          exact ⟨by rw [HF3.out]; rfl, rfl⟩
      · have HF3 : Hid (B = false) := by show _ = _; rw [HF2.out]; exact decide_eq_false (by omega)
        have h1i : decide ((0 : Int) < (s.size : Int)) = false := decide_eq_false (by omega)
        go_wp2
        go_ret
        exact ⟨by rw [HF3.out]; rfl, rfl⟩
def numD (l : Bs) : Int := match numF l with | some n => (n : Int) | none => -1
theorem numD_no {l : Bs} (h : within l 5 48 57 = false) : numD l = -1 := by unfold numD numF; rw [if_neg (by rw [h]; simp)]
theorem numD_yes {l : Bs} (h : within l 5 48 57 = true) : numD l = (dgs l : Nat) := by unfold numD numF; rw [if_pos h]
theorem dgs_snoc (l : Bs) (c : UInt8) : dgs (l ++ [c]) = 10 * dgs l + (c.toNat - 48) := by simp [dgs, List.foldl_append]
theorem dgs_bd : ∀ (k : Nat) (l : Bs), l.length = k → l.all (inR 48 57) = true → dgs l < 10 ^ k := by
  intro k
  induction k with
  | zero => intro l hl _; rw [List.eq_nil_of_length_eq_zero hl]; decide
  | succ k ih =>
    intro l hl ha
    obtain ⟨r, c, rfl⟩ : ∃ r c, l = r ++ [c] := by
      have hne : l ≠ [] := fun e => by rw [e] at hl; simp at hl
      exact ⟨l.dropLast, l.getLast hne, (List.dropLast_concat_getLast hne).symm⟩
    rw [List.all_append, Bool.and_eq_true] at ha
    have h1 := ih r (by simpa using hl) ha.1
    have h2 : inR 48 57 c = true := by simpa using ha.2
    unfold inR at h2
    have h3 := of_decide_eq_true h2
    rw [dgs_snoc, Nat.pow_succ]
    omega
set_option maxHeartbeats 1600000 in
theorem rnum_s (s : ByteArray) (w : World) (hs : s.size ≤ 1000000) : Calls Tryd.prog 54 #[.string s] w fun e w' => e = .returned (i64 (numD s.data.toList)) ∧ w' = w := by
  have hlen : s.data.toList.length = s.size := Array.length_toList
  have HL := hid hlen
  obtain ⟨B, hB⟩ : ∃ B, B = numD s.data.toList := ⟨_, rfl⟩
  have HBe := hid hB
  rw [← hB]
  have HNO : Hid (∀ k (h : k < s.size), inR 48 57 s[k] = false ∨ 4 < k → B = -1) := fun k h hk => by
    rw [HBe.out]
    refine numD_no ?_
    rw [within_eq]
    rcases hk with hk | hk
    · have : s.data.toList.all (inR 48 57) = false := List.all_eq_false.2 ⟨_, d_mem s k h, by rw [hk]; simp⟩
      rw [this]; simp
    · rw [decide_eq_false (by rw [HL.out]; omega)]; rfl
  clear hlen hB
  go_enter Tryd.func54, Tryd.ntmps54
  go_wp2
  go_loop [3, 4] (fun v u => ∃ k V : Nat, k ≤ s.size ∧ k ≤ 5 ∧ u = .int .i64 k ∧ v = .int .i64 V ∧ V ≤ 99999 ∧ Hid (V = dgs (s.data.toList.take k)) ∧ Hid ((s.data.toList.take k).all (inR 48 57) = true)) (fun v u => s.size - (intOf u).toNat)
  case atStart => exact ⟨0, 0, Nat.zero_le _, by omega, rfl, rfl, by omega, by show _ = _; rfl, by show _ = _; rfl⟩
  case round =>
    obtain ⟨k, V, hk, hk5, rfl, rfl, hV, HV, HA⟩ := hrel
    by_cases hlt : k < s.size
    · by_cases h3 : (s[k].toNat : Int) < 48
      · have HF : Hid (B = -1) := HNO.out k hlt (Or.inl (by unfold inR; exact decide_eq_false (by omega)))
        go_wp2
        go_ret
        exact ⟨by rw [HF.out]; rfl, rfl⟩
      · by_cases h4 : (57 : Int) < s[k].toNat
        · have HF : Hid (B = -1) := HNO.out k hlt (Or.inl (by unfold inR; exact decide_eq_false (by omega)))
          go_wp2
          go_ret
          exact ⟨by rw [HF.out]; rfl, rfl⟩
        · by_cases h5 : 4 < k
          · have HF : Hid (B = -1) := HNO.out k hlt (Or.inr h5)
            have h5i : (4 : Int) < (k : Int) := by omega
            go_wp2
            go_ret
            exact ⟨by rw [HF.out]; rfl, rfl⟩
          · have h5i : ¬ (4 : Int) < (k : Int) := by omega
            have HA2 : Hid ((s.data.toList.take (k + 1)).all (inR 48 57) = true) := by show _ = _; rw [d_take s k hlt]; exact all_snoc HA.out (by unfold inR; exact decide_eq_true (by omega))
            have HV2 : Hid (10 * V + (s[k].toNat - 48) = dgs (s.data.toList.take (k + 1))) := by show _ = _; rw [d_take s k hlt, dgs_snoc, HV.out]
            have HV3 : Hid (10 * V + (s[k].toNat - 48) ≤ 99999) := by
              show _ ≤ _
              rw [HV2.out]
              have := dgs_bd (k + 1) _ (by rw [List.length_take, HL.out]; omega) HA2.out
              have : (10 : Nat) ^ (k + 1) ≤ 10 ^ 5 := Nat.pow_le_pow_right (by omega) (by omega)
              omega
            have hx57 : s[k].toNat ≤ 57 := by omega
            go_wp2
            go_round
            case rel => exact ⟨k + 1, 10 * V + (s[k].toNat - 48), by omega, by omega, by go_num, by (congr 1; omega), HV3.out, HV2, HA2⟩
            case measure => simp [intOf]; omega
    · have hkn : k = s.size := by omega
      have HF : Hid (1 ≤ s.size → B = (V : Nat)) := fun h1 => by
        have hf : s.data.toList.take k = s.data.toList := List.take_of_length_le (by rw [HL.out]; omega)
        have h2 := HA.out
        have h3 := HV.out
        rw [hf] at h2 h3
        rw [HBe.out, numD_yes (by rw [within_eq, h2, decide_eq_true (by rw [HL.out]; omega)]; rfl), h3]
      by_cases h0 : s.size = 0
      · have he : s = ⟨#[]⟩ := by
          apply ByteArray.ext
          exact Array.eq_empty_of_size_eq_zero h0
        subst he
        have HF2 : Hid (B = -1) := by show _ = _; rw [HBe.out]; rfl
        go_wp2
        go_ret
        exact ⟨by rw [HF2.out]; rfl, rfl⟩
      · have HF2 : Hid (B = (V : Nat)) := HF.out (by omega)
        have hemp : s.toList.isEmpty = false := by
          rw [Lib.toList_data]
          cases h : s.data.toList with
          | nil => have := Lib.size_eq s; rw [h, List.length_nil] at this; omega
          | cons _ _ => rfl
        go_wp2
        go_ret
        exact ⟨by rw [HF2.out]; rfl, rfl⟩
end Go.Proofs.YtobkehlkopkaeaaDoor
