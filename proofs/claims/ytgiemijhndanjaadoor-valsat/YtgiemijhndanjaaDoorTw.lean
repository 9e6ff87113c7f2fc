/- imagoref15.twice: its contract; no statement is proved in this text. -/
import Derived.Test.YtgiemijhndanjaaDoorNm
namespace Go.Proofs.YtgiemijhndanjaaDoor
open Go.ChangeShapes Go.WideShapes Go.ChangeAt Go.RowKit Go.Deep
attribute [local go_sem ↓] Go.wp_at_zero Go.wp_at_succ

/-- Does a name up to a place stand twice? -/
def twTo (l : List Bs) (k : Nat) : Bool := (List.range k).any fun i => (l.take i).contains (l.getD i [])
theorem ba_beq (a b : Bs) : ((⟨a.toArray⟩ : ByteArray) == ⟨b.toArray⟩) = decide (a = b) := by
  show (a.toArray == b.toArray) = _
  by_cases h : a = b
  · subst h; simp
  · simp [h]
theorem twTo_snoc (l : List Bs) (k : Nat) : twTo l (k + 1) = (twTo l k || (l.take k).contains (l.getD k [])) := by
  unfold twTo
  rw [List.range_succ, List.any_append]
  simp
theorem getD_at (l : List Bs) (k : Nat) (h : k < l.length) : l.getD k [] = l[k] := by simp [List.getD_eq_getElem?_getD, List.getElem?_eq_getElem h]
theorem contains_no {l : List Bs} {x : Bs} (h : ∀ i (hi : i < l.length), l[i] ≠ x) : l.contains x = false := by
  cases hc : l.contains x with
  | false => rfl
  | true =>
    rw [List.contains_iff_mem] at hc
    obtain ⟨i, hi, e⟩ := List.mem_iff_getElem.1 hc
    exact absurd e (h i hi)
theorem twTo_mono (l : List Bs) (k : Nat) : ∀ n, k ≤ n → twTo l k = true → twTo l n = true := by
  intro n hn h
  induction n with
  | zero => have : k = 0 := by omega
            subst this; exact h
  | succ n ih =>
    by_cases e : k = n + 1
    · subst e; exact h
    · rw [twTo_snoc, ih (by omega)]; rfl
set_option maxRecDepth 100000 in
set_option maxHeartbeats 3200000 in
theorem twice_ok (l : List Bs) (w : World) (S : Nat → Prop) (v : Value) (hS : Strs w S v l) : Calls Tryd.prog 49 #[v] w fun e w' => e = .returned (.bool (twTo l l.length)) ∧ Below w.heap.size w w' := by
  have HS : Hid (Strs w S v l) := hS
  obtain ⟨ao, cap, rfl, hl, _, _⟩ := hS
  unfold maxLen at hl
  obtain ⟨B, hB⟩ : ∃ B, B = twTo l l.length := ⟨_, rfl⟩
  have HBe := hid hB
  rw [← hB]
  clear hB
  go_enter Tryd.func49, Tryd.ntmps49
  go_wp2_with fail
  go_loopw [7] (fun u wr => ∃ i : Nat, i ≤ l.length ∧ u = i64 i ∧ Hid (twTo l i = false) ∧ Hid (Below w.heap.size w wr)) (fun u _ => l.length - (intOf u).toNat)
  case atStart => exact ⟨0, by omega, rfl, by show _ = _; rfl, by show Below _ _ _; exact Below.refl _ _⟩
  case round =>
    obtain ⟨i, hi, rfl, HT, HB⟩ := hrel
    by_cases hlt : i < l.length
    · go_wp2_with fail
      generalize hW : wr = W at *
      clear hW
      go_loopw [4] (fun u wr => ∃ j : Nat, j ≤ i ∧ u = i64 j ∧ Hid (∀ m (hm : m < j) (hm2 : m < l.length), l[m] ≠ l[i]) ∧ Hid (Below w.heap.size w wr)) (fun u _ => i - (intOf u).toNat)
      case atStart => exact ⟨0, by omega, rfl, by intro m hm; omega, HB⟩
      case round =>
        obtain ⟨j, hj, rfl, HN, HB2⟩ := hrel
        by_cases hlj : j < i
        · obtain ⟨ao', cap', he, hat⟩ := (HS.out.below HB2.out).at
          cases he
          obtain ⟨b, off, rfl, hblt, cI⟩ := hat i hlt
          obtain ⟨b', off', he', _, cJ⟩ := hat j (by omega)
          cases he'
          obtain ⟨x, hx⟩ : ∃ x, x = l[i] := ⟨_, rfl⟩
          obtain ⟨y, hy⟩ : ∃ y, y = l[j]'(by omega) := ⟨_, rfl⟩
          rw [← hx] at cI
          rw [← hy] at cJ
          have HXe := hid hx
          have HYe := hid hy
          clear hx hy hat
          by_cases hxy : x = y
          · have hq : (x == y) = true := by simpa using hxy
            have HF : Hid (B = true) := by
              show _ = _
              rw [HBe.out]
              refine twTo_mono l (i + 1) _ (by omega) ?_
              rw [twTo_snoc, getD_at l i hlt, ← HXe.out, hxy, HYe.out]
              have : (l.take i).contains (l[j]'(by omega)) = true := by
                rw [List.contains_iff_mem]
                refine List.mem_iff_getElem.2 ⟨j, by simp; omega, by simp⟩
              rw [this]; simp
            clear hxy
            go_upto_region 7 with fail
            go_quiet (fail)
            go_wp2_with fail
            go_ret
            exact ⟨by rw [HF.out]; rfl, below_drewN HB2.out _⟩
          · have hq : (x == y) = false := by simpa using hxy
            have HN2 : Hid (∀ m (hm : m < j + 1) (hm2 : m < l.length), l[m] ≠ l[i]) := by
              intro m hm hm2
              by_cases e : m = j
              · subst e; rw [← HYe.out, ← HXe.out]; exact fun h => hxy h.symm
              · exact HN.out m (by omega) hm2
            clear hxy
            go_upto_region 7 with fail
            go_quiet (fail)
            go_wp2_with fail
            exact ⟨⟨j + 1, by omega, by go_num, HN2, below_drewN HB2.out _⟩, by simp [intOf]; omega⟩
        · have HT2 : Hid (twTo l (i + 1) = false) := by
            show _ = _
            rw [twTo_snoc, HT.out, getD_at l i hlt, contains_no]
            · rfl
            · intro m hm
              rw [List.getElem_take]
              exact HN.out m (by simp at hm; omega) (by simp at hm; omega)
          go_wp2_with fail
          exact ⟨⟨i + 1, by omega, by go_num, HT2, HB2⟩, by simp [intOf]; omega⟩
    · have HF : Hid (B = false) := by
        show _ = _
        rw [HBe.out]
        have : i = l.length := by omega
        rw [← this]; exact HT.out
      go_wp2_with fail
      go_ret
      exact ⟨by rw [HF.out]; rfl, HB.out⟩
end Go.Proofs.YtgiemijhndanjaaDoor
