/- types.Name and imagoref15.Name: their contracts; no statement is proved in this text. -/
import Derived.Test.YtihbbgcpdgnhoaaGreatDoorApp
namespace Go.Proofs.YtihbbgcpdgnhoaaGreatDoor
open Go.ChangeShapes Go.WideShapes Go.ChangeAt Go.RowKit Go.Deep
attribute [local go_sem ↓] Go.wp_at_zero Go.wp_at_succ

theorem take_snoc (s : ByteArray) (k : Nat) (h : k < s.size) : s.data.toList.take (k + 1) = s.data.toList.take k ++ [s[k]] := by
  rw [List.take_succ_eq_append_getElem (by simpa using h)]; rfl
theorem mem_at (s : ByteArray) (k : Nat) (h : k < s.size) : s[k] ∈ s.data.toList := by
  have : s.data.toList[k]? = some s[k] := by
    rw [List.getElem?_eq_getElem (by simpa using h)]; rfl
  exact List.mem_of_getElem? this
theorem nameB_no {l : Bs} {c : UInt8} (h : c ∈ l) (hc : isLow c = false) : nameB l = false := by
  unfold nameB
  cases hall : l.all isLow with
  | false => rfl
  | true => rw [List.all_eq_true.1 hall c h] at hc; cases hc
theorem nameB_len {l : Bs} (h : l.length < 1 ∨ 8 < l.length) : nameB l = false := by
  unfold nameB
  rcases h with h | h
  · rw [decide_eq_false (show ¬ 1 ≤ l.length by omega)]; simp
  · rw [decide_eq_false (show ¬ l.length ≤ 8 by omega)]; simp
theorem nameB_yes {l : Bs} (h : l.all isLow = true) (h1 : 1 ≤ l.length) (h2 : l.length ≤ 8) : nameB l = true := by
  unfold nameB
  rw [h, decide_eq_true h1, decide_eq_true h2]; rfl
theorem low_of {c : UInt8} (h : ¬ ((c.toNat : Int) < 97)) (h2 : ¬ ((122 : Int) < c.toNat)) : isLow c = true := by
  unfold isLow; rw [decide_eq_true (show 97 ≤ c.toNat by omega), decide_eq_true (show c.toNat ≤ 122 by omega)]; rfl
theorem low_no {c : UInt8} (h : (c.toNat : Int) < 97 ∨ (122 : Int) < c.toNat) : isLow c = false := by
  unfold isLow
  rcases h with h | h
  · rw [decide_eq_false (show ¬ 97 ≤ c.toNat by omega)]; rfl
  · rw [decide_eq_false (show ¬ c.toNat ≤ 122 by omega)]; simp
theorem all_snoc {l : Bs} {c : UInt8} (h : l.all isLow = true) (hc : isLow c = true) : (l ++ [c]).all isLow = true := by simp [List.all_append, h, hc]
set_option maxHeartbeats 1600000 in
theorem name_s (s : ByteArray) (w : World) (hs : s.size ≤ maxLen) : Calls Tryz.prog 86 #[.string s] w fun e w' => e = .returned (.bool (nameB s.data.toList)) ∧ w' = w := by
  unfold maxLen at hs
  have hlen : s.data.toList.length = s.size := Array.length_toList
  by_cases h1 : s.size < 1
  · rw [nameB_len (Or.inl (by omega))]
    clear hlen
    go_enter Tryz.func86, Tryz.ntmps86
    go_wp2
    go_ret
    exact ⟨rfl, rfl⟩
  · by_cases h2 : 8 < s.size
    · rw [nameB_len (Or.inr (by omega))]
      clear hlen
      go_enter Tryz.func86, Tryz.ntmps86
      go_wp2
      go_ret
      exact ⟨rfl, rfl⟩
    · have HL := hid hlen
      obtain ⟨B, hB⟩ : ∃ B, B = nameB s.data.toList := ⟨_, rfl⟩
      have HBe := hid hB
      rw [← hB]
      clear hlen hB
      go_enter Tryz.func86, Tryz.ntmps86
      go_wp2
      go_loop [14] (fun u => ∃ k : Nat, k ≤ s.size ∧ u = .int .i64 k ∧ Hid ((s.data.toList.take k).all isLow = true)) (fun u => s.size - (intOf u).toNat)
      case atStart => exact ⟨0, Nat.zero_le _, rfl, by show _ = _; rfl⟩
      case round =>
        obtain ⟨k, hk, rfl, HA⟩ := hrel
        by_cases hlt : k < s.size
        · by_cases h3 : (s[k].toNat : Int) < 97
          · have HF : Hid (B = false) := by show _ = _; rw [HBe.out]; exact nameB_no (mem_at s k hlt) (low_no (Or.inl h3))
            go_wp2
            go_ret
            exact ⟨by rw [HF.out]; rfl, rfl⟩
          · by_cases h4 : (122 : Int) < s[k].toNat
            · have HF : Hid (B = false) := by show _ = _; rw [HBe.out]; exact nameB_no (mem_at s k hlt) (low_no (Or.inr h4))
              go_wp2
              go_ret
              exact ⟨by rw [HF.out]; rfl, rfl⟩
            · have HA2 : Hid ((s.data.toList.take (k + 1)).all isLow = true) := by show _ = _; rw [take_snoc s k hlt]; exact all_snoc HA.out (low_of h3 h4)
              go_wp2
              go_round
              case rel => exact ⟨k + 1, by omega, by go_num, HA2⟩
              case measure => simp [intOf]; omega
        · have HF : Hid (B = true) := by
            show _ = _
            rw [HBe.out]
            have := HA.out
            have hl := HL.out
            rw [List.take_of_length_le (by omega)] at this
            exact nameB_yes this (by omega) (by omega)
          go_wp2
          go_ret
          exact ⟨by rw [HF.out]; rfl, rfl⟩
theorem name_ok (l : Bs) (w : World) (hs : l.length ≤ maxLen) : Calls Tryz.prog 86 #[str l] w fun e w' => e = .returned (.bool (nameB l)) ∧ w' = w := name_s ⟨l.toArray⟩ w (by simpa [ByteArray.size] using hs)
end Go.Proofs.YtihbbgcpdgnhoaaGreatDoor
