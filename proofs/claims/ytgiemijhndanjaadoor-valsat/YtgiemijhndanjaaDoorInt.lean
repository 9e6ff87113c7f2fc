/- imagoplain.Ints: its contract; no statement is proved in this text. -/
import Derived.Deep.QuietTactic
import Derived.BigQuiet
import Derived.Test.YtgiemijhndanjaaDoorFi0
namespace Go.Proofs.YtgiemijhndanjaaDoor
open Go.ChangeShapes Go.WideShapes Go.ChangeAt Go.RowKit Go.Deep
attribute [local go_sem ↓] Go.wp_at_zero Go.wp_at_succ

theorem eq_step (l m : List Nat) (i : Nat) (h1 : i < l.length) (h2 : i < m.length) (h : l[i] = m[i]) (ht : l.take i = m.take i) : l.take (i + 1) = m.take (i + 1) := by
  rw [List.take_succ_eq_append_getElem h1, List.take_succ_eq_append_getElem h2, ht, h]
theorem Nls.at {w : World} {S : Nat → Prop} {ao : Option Addr} {n cap : Nat} {l : List Nat} (h : Nls w S (.slice ao n cap) l) (i : Nat) (hi : i < l.length) : ∃ b off, ao = some ⟨b, off, none⟩ ∧ b < w.heap.size ∧ w.cell? ⟨b, off + i, none⟩ = some (i64 l[i]) := by
  obtain ⟨ao', cap', he, _, h3⟩ := h
  cases he
  rcases h3 with rfl | ⟨b, off, rfl, _, hlt, hc⟩
  · simp at hi
  · exact ⟨b, off, rfl, hlt, hc i _ (List.getElem?_eq_getElem hi)⟩
set_option maxRecDepth 100000 in
set_option maxHeartbeats 12800000 in
theorem ints_ok (l m : List Nat) (w : World) (S S' : Nat → Prop) (v u : Value) (hl : Nls w S v l) (hm : Nls w S' u m) (h1 : l.length ≤ 1000000) (_h2 : m.length ≤ 1000000) : Calls Tryd.prog 17 #[v, u] w fun e w' => e = .returned (.bool (decide (l = m))) ∧ ∃ n, w' = w.drewN n := by
  obtain ⟨B, hB⟩ : ∃ B, B = decide (l = m) := ⟨_, rfl⟩
  have HBe := hid hB
  rw [← hB]
  clear hB
  have HL0 := hid hl
  have HM0 := hid hm
  obtain ⟨ao, cap, rfl, _, _⟩ := hl
  obtain ⟨bo, dap, rfl, _, _⟩ := hm
  go_enter Tryd.func17, Tryd.ntmps17
  go_wp2_with fail
  go_loopw [8] (fun u wr => ∃ i n : Nat, i ≤ l.length ∧ i ≤ m.length ∧ u = i64 i ∧ wr = w.drewN n ∧ Hid (l.take i = m.take i)) (fun u _ => l.length - (intOf u).toNat)
  case atStart => exact ⟨0, 0, Nat.zero_le _, Nat.zero_le _, rfl, rfl, by show _ = _; simp⟩
  case round =>
    obtain ⟨i, n, hi1, hi2, rfl, rfl, HT⟩ := hrel
    by_cases hlt : i < l.length
    · obtain ⟨b, off, rfl, hb, hc⟩ := HL0.out.at i hlt
      by_cases hlm : i < m.length
      · obtain ⟨b', off', rfl, hb', hc'⟩ := HM0.out.at i hlm
        obtain ⟨x, hx⟩ : ∃ x, x = l[i] := ⟨_, rfl⟩
        obtain ⟨y, hy⟩ : ∃ y, y = m[i] := ⟨_, rfl⟩
        rw [← hx] at hc
        rw [← hy] at hc'
        have q1 : decide (m.length ≤ i) = false := by simpa using hlm
        by_cases hxy : x = y
        · have HT2 : Hid (l.take (i + 1) = m.take (i + 1)) := eq_step l m i hlt hlm (by rw [← hx, ← hy]; exact hxy) HT.out
          have q2 : ((x : Int) != (y : Int)) = false := by simp [hxy]
          clear hxy hx hy
          go_upto_region 4 with fail
          go_quiet (fail)
          go_wp2_with fail
          exact ⟨⟨i + 1, _, by omega, by omega, by go_num, rfl, HT2⟩, by simp [intOf]; omega⟩
        · have HF : Hid (B = false) := by show _ = _; rw [HBe.out]; exact decide_eq_false (fun e => hxy (by rw [hx, hy]; simp [e]))
          have q2 : ((x : Int) != (y : Int)) = true := by simp; omega
          clear hxy hx hy
          go_upto_region 4 with fail
          go_quiet (fail)
          go_wp2_with fail
          go_ret
          exact ⟨by rw [HF.out]; rfl, _, World.drewN_drewN ..⟩
      · have HF : Hid (B = false) := by show _ = _; rw [HBe.out]; exact decide_eq_false (fun e => hlm (by rw [← e]; exact hlt))
        have q1 : decide (m.length ≤ i) = true := by simpa using hlm
        go_upto_region 4 with fail
        go_quiet (fail)
        go_wp2_with fail
        go_ret
        exact ⟨by rw [HF.out]; rfl, _, World.drewN_drewN ..⟩
    · have he : i = l.length := by omega
      by_cases hlm : l.length = m.length
      · have HF : Hid (B = true) := by
          show _ = _
          rw [HBe.out]
          refine decide_eq_true ?_
          have := HT.out
          rw [he, List.take_of_length_le (Nat.le_refl _), hlm, List.take_of_length_le (Nat.le_refl _)] at this
          exact this
        have q1 : ((l.length : Int) == (m.length : Int)) = true := by simp [hlm]
        clear hlm he
        go_wp2_with fail
        go_ret
        exact ⟨by rw [HF.out]; rfl, n, rfl⟩
      · have HF : Hid (B = false) := by show _ = _; rw [HBe.out]; exact decide_eq_false (fun e => hlm (by rw [e]))
        have q1 : ((l.length : Int) == (m.length : Int)) = false := by simp; omega
        clear hlm he
        go_wp2_with fail
        go_ret
        exact ⟨by rw [HF.out]; rfl, n, rfl⟩
end Go.Proofs.YtgiemijhndanjaaDoor
