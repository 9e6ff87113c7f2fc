/- Texts Qa Qb Qr Qs in one; no statement is proved in this text. -/
import Derived.Test.YtjppcfjjpkniaaaGreatDoorME
import Derived.Test.YtjppcfjjpkniaaaGreatDoorMC
import Derived.Test.YtjppcfjjpkniaaaGreatDoorMI
import Derived.Test.YtjppcfjjpkniaaaGreatDoorMK
import Derived.Test.YtjppcfjjpkniaaaGreatDoorMD
namespace Go.Proofs.YtjppcfjjpkniaaaGreatDoor
open Go.ChangeShapes Go.WideShapes Go.ChangeAt Go.RowKit Go.Deep
attribute [local go_sem ↓] Go.wp_at_zero Go.wp_at_succ
set_option maxRecDepth 100000

set_option maxHeartbeats 12800000 in
theorem qrop_ok (k : Nat) (w : World) (h : k ≤ 9) : Calls Tryz.prog 57 #[i64 (k : Nat)] w fun e w' => e = .returned (str (opNm k)) ∧ Below w.heap.size w w' := by
  have : k = 0 ∨ k = 1 ∨ k = 2 ∨ k = 3 ∨ k = 4 ∨ k = 5 ∨ k = 6 ∨ k = 7 ∨ k = 8 ∨ k = 9 := by omega
  rcases this with rfl | rfl | rfl | rfl | rfl | rfl | rfl | rfl | rfl | rfl
  all_goals
    go_enter Tryz.func57, Tryz.ntmps57
    go_wp2_with fail
    go_ret
    exact ⟨rfl, below_one w _⟩
set_option maxHeartbeats 1600000 in
theorem qropOf_ok (l : Bs) (w : World) : Calls Tryz.prog 47 #[str l] w fun e w' => e = .returned (i64 (opF l : Nat)) ∧ Below w.heap.size w w' := by
  have HBr : Hid (Below w.heap.size w w) := Below.refl _ _
  obtain ⟨N, hN⟩ : ∃ N, N = opF l := ⟨_, rfl⟩
  have HN := hid hN
  rw [← hN]
  clear hN
  go_enter Tryz.func47, Tryz.ntmps47
  go_upto_region 2 with fail
  go_loopg [3] (10) (fun g u wr => ∃ k : Nat, 1 ≤ k ∧ k ≤ 10 ∧ 10 - k ≤ g ∧ u = .int .i64 k ∧ Hid (∀ j, 1 ≤ j → j < k → opNm j ≠ l) ∧ Hid (Below w.heap.size w wr))
  case atStart => exact ⟨1, by omega, by omega, by omega, rfl, fun j h1 h2 => by omega, HBr⟩
  case round =>
    obtain ⟨k, hk1, hk, hg, rfl, HA, HB⟩ := hrel
    by_cases hlt : k ≤ 9
    · have HC := hid (qrop_ok k wr hlt)
      generalize hO : opNm k = o at *
      have HO := hid hO
      clear hO
      go_wp2_with fail
      refine HC.out.mono ?_
      rintro e w1 ⟨rfl, hb⟩
      have HB1 : Hid (Below w.heap.size w w1) := HB.out.trans (hb.mono HB.out.size)
      clear hb HC HB
      by_cases h3 : o = l
      · subst h3
        have HE : Hid (N = k) := by show _ = _; rw [HN.out, ← HO.out]; exact opF_at k hk1 hlt
        go_wp2
        go_ret
        exact ⟨by rw [HE.out]; rfl, HB1.out⟩
      · have HA2 : Hid (∀ j, 1 ≤ j → j < k + 1 → opNm j ≠ l) := fun j h1 h2 => by
          by_cases hj : j < k
          · exact HA.out j h1 hj
          · obtain rfl : j = k := by omega
            rw [HO.out]; exact h3
        have hb : (o == l) = false := by simp [h3]
        go_wp2
        go_roundg (10 - (k + 1))
        case measure => omega
        case rel => exact ⟨k + 1, by omega, by omega, by omega, by go_num, HA2, HB1⟩
    · have HE : Hid (N = 0) := by show _ = _; rw [HN.out]; exact opF_no l fun j h1 h2 => HA.out j h1 (by omega)
      go_wp2
      go_ret
      exact ⟨by rw [HE.out]; rfl, HB.out⟩
def qnumI (l : Bs) : Int := match numW l with | some n => (n : Int) | none => -1
theorem qnumI_no {l : Bs} (h : ¬ (l.length ≤ 10 ∧ l ≠ [] ∧ l.all isDig = true ∧ valD l ≤ 4294967295)) : qnumI l = -1 := by unfold qnumI numW; rw [if_neg h]
theorem qnumI_yes {l : Bs} (h : l.length ≤ 10 ∧ l ≠ [] ∧ l.all isDig = true ∧ valD l ≤ 4294967295) : qnumI l = (valD l : Nat) := by unfold qnumI numW; rw [if_pos h]
theorem qisDig_of {c : UInt8} (h : ¬ ((c.toNat : Int) < 48)) (h2 : ¬ ((57 : Int) < c.toNat)) : isDig c = true := by
  unfold isDig; rw [decide_eq_true (show 48 ≤ c.toNat by omega), decide_eq_true (show c.toNat ≤ 57 by omega)]; rfl
theorem qisDig_no {c : UInt8} (h : (c.toNat : Int) < 48 ∨ (57 : Int) < c.toNat) : isDig c = false := by
  unfold isDig
  rcases h with h | h
  · rw [decide_eq_false (show ¬ 48 ≤ c.toNat by omega)]; rfl
  · rw [decide_eq_false (show ¬ c.toNat ≤ 57 by omega)]; simp
theorem qall_snocd {l : Bs} {c : UInt8} (h : l.all isDig = true) (hc : isDig c = true) : (l ++ [c]).all isDig = true := by simp [List.all_append, h, hc]
theorem qvalD_bd {l : Bs} (h : l.all isDig = true) (hl : l.length ≤ 10) : valD l ≤ 9999999999 := by
  have := valD_lt 10 l hl (List.all_eq_true.1 h)
  omega
set_option maxHeartbeats 1600000 in
theorem qrnum_s (s : ByteArray) (w : World) (hs : s.size ≤ maxLen) : Calls Tryz.prog 49 #[.string s] w fun e w' => e = .returned (i64 (qnumI s.data.toList)) ∧ w' = w := by
  unfold maxLen at hs
  have hlen : s.data.toList.length = s.size := Array.length_toList
  by_cases h1 : s.size < 1
  · rw [qnumI_no (fun h => by have := List.length_pos_iff.2 h.2.1; omega)]
    clear hlen
    go_enter Tryz.func49, Tryz.ntmps49
    go_wp2
    go_ret
    exact ⟨rfl, rfl⟩
  · by_cases h2 : 10 < s.size
    · rw [qnumI_no (fun h => by have := h.1; omega)]
      clear hlen
      go_enter Tryz.func49, Tryz.ntmps49
      go_wp2
      go_ret
      exact ⟨rfl, rfl⟩
    · have HL := hid hlen
      have HNE : Hid (s.data.toList ≠ []) := fun h => by rw [h] at hlen; simp at hlen; omega
      obtain ⟨B, hB⟩ : ∃ B, B = qnumI s.data.toList := ⟨_, rfl⟩
      have HBe := hid hB
      rw [← hB]
      clear hlen hB
      go_enter Tryz.func49, Tryz.ntmps49
      go_wp2
      go_loop [3, 4] (fun v u => ∃ k V : Nat, k ≤ s.size ∧ u = .int .i64 k ∧ v = .int .i64 V ∧ V ≤ 9999999999 ∧ Hid (V = valD (s.data.toList.take k)) ∧ Hid ((s.data.toList.take k).all isDig = true)) (fun v u => s.size - (intOf u).toNat)
      case atStart => exact ⟨0, 0, Nat.zero_le _, rfl, rfl, by omega, by show _ = _; rfl, by show _ = _; rfl⟩
      case round =>
        obtain ⟨k, V, hk, rfl, rfl, hV, HV, HA⟩ := hrel
        by_cases hlt : k < s.size
        · by_cases h3 : (s[k].toNat : Int) < 48
          · have HF : Hid (B = -1) := by
              show _ = _; rw [HBe.out]
              exact qnumI_no fun h => by have := List.all_eq_true.1 h.2.2.1 _ (mem_at s k hlt); rw [qisDig_no (Or.inl h3)] at this; cases this
            go_wp2
            go_ret
            exact ⟨by rw [HF.out]; rfl, rfl⟩
          · by_cases h4 : (57 : Int) < s[k].toNat
            · have HF : Hid (B = -1) := by
                show _ = _; rw [HBe.out]
                exact qnumI_no fun h => by have := List.all_eq_true.1 h.2.2.1 _ (mem_at s k hlt); rw [qisDig_no (Or.inr h4)] at this; cases this
              go_wp2
              go_ret
              exact ⟨by rw [HF.out]; rfl, rfl⟩
            · have HA2 : Hid ((s.data.toList.take (k + 1)).all isDig = true) := by show _ = _; rw [take_snoc s k hlt]; exact qall_snocd HA.out (qisDig_of h3 h4)
              have HV2 : Hid (10 * V + (s[k].toNat - 48) = valD (s.data.toList.take (k + 1))) := by show _ = _; rw [take_snoc s k hlt, valD_snoc, HV.out]
              have HV3 : Hid (10 * V + (s[k].toNat - 48) ≤ 9999999999) := by
                show _ ≤ _
                rw [HV2.out]
                exact qvalD_bd HA2.out (by rw [List.length_take]; omega)
              go_wp2
              go_round
              case rel => exact ⟨k + 1, 10 * V + (s[k].toNat - 48), by omega, by go_num, by (congr 1; omega), HV3.out, HV2, HA2⟩
              case measure => simp [intOf]; omega
        · have hfull : s.data.toList.take k = s.data.toList := List.take_of_length_le (by rw [HL.out]; omega)
          have HV2 : Hid (V = valD s.data.toList) := by show _ = _; rw [HV.out, hfull]
          have HA2 : Hid (s.data.toList.all isDig = true) := by show _ = _; rw [← hfull]; exact HA.out
          clear hfull HV HA
          by_cases h5 : (4294967295 : Int) < V
          · have HF : Hid (B = -1) := by show _ = _; rw [HBe.out]; exact qnumI_no fun h => by have := h.2.2.2; rw [← HV2.out] at this; omega
            go_wp2
            go_ret
            exact ⟨by rw [HF.out]; rfl, rfl⟩
          · have HF : Hid (B = V) := by
              show _ = _; rw [HBe.out, HV2.out]
              exact qnumI_yes ⟨by have := HL.out; omega, HNE.out, HA2.out, by rw [← HV2.out]; omega⟩
            go_wp2
            go_ret
            exact ⟨by rw [HF.out]; rfl, rfl⟩
theorem qrnum_ok (l : Bs) (w : World) (hs : l.length ≤ maxLen) : Calls Tryz.prog 49 #[str l] w fun e w' => e = .returned (i64 (qnumI l)) ∧ w' = w := qrnum_s ⟨l.toArray⟩ w (by simpa [ByteArray.size] using hs)
theorem qall_takeS {l : List Bs} {k : Nat} {x : Bs} (h : l[k]? = some x) (ha : (l.take k).all nameB = true) (hx : nameB x = true) : (l.take (k + 1)).all nameB = true := by
  rw [List.take_add_one, h]
  simp only [Option.toList, List.all_append, ha, List.all_cons, hx, List.all_nil, Bool.and_self]
set_option maxHeartbeats 1600000 in
theorem qrall_ok (l : List Bs) (w : World) (S : Nat → Prop) (v : Value) (h : Strs w S v l) (hn : l.length ≤ 1000000) : Calls Tryz.prog 51 #[v] w fun e w' => e = .returned (.bool (l.all nameB)) ∧ w' = w := by
  obtain ⟨ao, cap, rfl, _, h2, h3⟩ := h
  have hc : ∃ b off, ∀ i x, l[i]? = some x → ao = some ⟨b, off, none⟩ ∧ w.cell? ⟨b, off + i, none⟩ = some (str x) := by
    rcases h3 with rfl | ⟨b, off, rfl, _, _, hcell⟩
    · exact ⟨0, 0, fun i x hx => by simp at hx⟩
    · exact ⟨b, off, fun i x hx => ⟨rfl, hcell i x hx⟩⟩
  obtain ⟨b, off, hcell⟩ := hc
  have HC := hid hcell
  have HM := hid h2.2
  obtain ⟨L, hL⟩ : ∃ L, L = l.length := ⟨_, rfl⟩
  have HL := hid hL
  obtain ⟨B, hB⟩ : ∃ B, B = l.all nameB := ⟨_, rfl⟩
  have HBe := hid hB
  rw [← hB, ← hL]
  rw [← hL] at hn
  clear hcell h2 h3 hL hB
  go_enter Tryz.func51, Tryz.ntmps51
  go_wp2
  go_loop [7] (fun u => ∃ k : Nat, k ≤ L ∧ u = .int .i64 k ∧ Hid ((l.take k).all nameB = true)) (fun u => L - (intOf u).toNat)
  case atStart => exact ⟨0, Nat.zero_le _, rfl, by show _ = _; rfl⟩
  case round =>
    obtain ⟨k, hk, rfl, HA⟩ := hrel
    by_cases hlt : k < L
    · have hx := List.getElem?_eq_getElem (show k < l.length by rw [← HL.out]; exact hlt)
      obtain ⟨rfl, hcx⟩ := HC.out k _ hx
      have HMX := HM.out _ (List.getElem_mem (show k < l.length by rw [← HL.out]; exact hlt))
      have HX := hid hx
      have HMM := hid (List.getElem_mem (show k < l.length by rw [← HL.out]; exact hlt))
      clear hx
      generalize l[k]'(by rw [← HL.out]; exact hlt) = x at *
      have HNM := hid (rname_ok x w HMX)
      clear HMX
      go_wp2_with fail
      refine HNM.out.mono ?_
      rintro e w1 ⟨rfl, hw1⟩
      replace hw1 := hw1.symm
      subst hw1
      cases hb : nameB x with
      | true =>
        have HA2 := hid (qall_takeS HX.out HA.out hb)
        clear hb
        go_wp2
        go_round
        case rel => exact ⟨k + 1, by omega, by go_num, HA2⟩
        case measure => simp [intOf]; omega
      | false =>
        have HF : Hid (B = false) := by
          show _ = _
          rw [HBe.out]
          cases hall : l.all nameB with
          | false => rfl
          | true => rw [List.all_eq_true.1 hall x HMM.out] at hb; cases hb
        clear hb
        go_wp2
        go_ret
        exact ⟨by rw [HF.out]; rfl, rfl⟩
    · have HF : Hid (B = true) := by
        show _ = _
        rw [HBe.out]
        have := HA.out
        rw [List.take_of_length_le (by rw [← HL.out]; omega)] at this
        exact this
      go_wp2
      go_ret
      exact ⟨by rw [HF.out]; rfl, rfl⟩
end Go.Proofs.YtjppcfjjpkniaaaGreatDoor
namespace Go.Proofs.YtjppcfjjpkniaaaGreatDoor
open Go.ChangeShapes Go.WideShapes Go.ChangeAt Go.RowKit Go.Deep
attribute [local go_sem ↓] Go.wp_at_zero Go.wp_at_succ
set_option maxRecDepth 100000

abbrev oO (o nm dst nv k n tn tk N bv f : Value) : Obj := .cells #[o, nm, dst, nv, k, n, tn, tk, N, bv, f] 91
theorem qb0 {S : Nat} {o nm dst nv k n tn tk N bv f : Value} {w : World} (hS : w.heap[S]? = some (oO o nm dst nv k n tn tk N bv f)) (x : Value) : (w.setCell ⟨S, 0, none⟩ x).heap[S]? = some (oO x nm dst nv k n tn tk N bv f) := by
  have := heap_setCell_same w S 0 _ 91 x hS
  simpa using this
theorem qb1 {S : Nat} {o nm dst nv k n tn tk N bv f : Value} {w : World} (hS : w.heap[S]? = some (oO o nm dst nv k n tn tk N bv f)) (x : Value) : (w.setCell ⟨S, 1, none⟩ x).heap[S]? = some (oO o x dst nv k n tn tk N bv f) := by
  have := heap_setCell_same w S 1 _ 91 x hS
  simpa using this
theorem qb2 {S : Nat} {o nm dst nv k n tn tk N bv f : Value} {w : World} (hS : w.heap[S]? = some (oO o nm dst nv k n tn tk N bv f)) (x : Value) : (w.setCell ⟨S, 2, none⟩ x).heap[S]? = some (oO o nm x nv k n tn tk N bv f) := by
  have := heap_setCell_same w S 2 _ 91 x hS
  simpa using this
theorem qb3 {S : Nat} {o nm dst nv k n tn tk N bv f : Value} {w : World} (hS : w.heap[S]? = some (oO o nm dst nv k n tn tk N bv f)) (x : Value) : (w.setCell ⟨S, 3, none⟩ x).heap[S]? = some (oO o nm dst x k n tn tk N bv f) := by
  have := heap_setCell_same w S 3 _ 91 x hS
  simpa using this
theorem qb4 {S : Nat} {o nm dst nv k n tn tk N bv f : Value} {w : World} (hS : w.heap[S]? = some (oO o nm dst nv k n tn tk N bv f)) (x : Value) : (w.setCell ⟨S, 4, none⟩ x).heap[S]? = some (oO o nm dst nv x n tn tk N bv f) := by
  have := heap_setCell_same w S 4 _ 91 x hS
  simpa using this
theorem qb5 {S : Nat} {o nm dst nv k n tn tk N bv f : Value} {w : World} (hS : w.heap[S]? = some (oO o nm dst nv k n tn tk N bv f)) (x : Value) : (w.setCell ⟨S, 5, none⟩ x).heap[S]? = some (oO o nm dst nv k x tn tk N bv f) := by
  have := heap_setCell_same w S 5 _ 91 x hS
  simpa using this
theorem qb6 {S : Nat} {o nm dst nv k n tn tk N bv f : Value} {w : World} (hS : w.heap[S]? = some (oO o nm dst nv k n tn tk N bv f)) (x : Value) : (w.setCell ⟨S, 6, none⟩ x).heap[S]? = some (oO o nm dst nv k n x tk N bv f) := by
  have := heap_setCell_same w S 6 _ 91 x hS
  simpa using this
theorem qb7 {S : Nat} {o nm dst nv k n tn tk N bv f : Value} {w : World} (hS : w.heap[S]? = some (oO o nm dst nv k n tn tk N bv f)) (x : Value) : (w.setCell ⟨S, 7, none⟩ x).heap[S]? = some (oO o nm dst nv k n tn x N bv f) := by
  have := heap_setCell_same w S 7 _ 91 x hS
  simpa using this
theorem qb8 {S : Nat} {o nm dst nv k n tn tk N bv f : Value} {w : World} (hS : w.heap[S]? = some (oO o nm dst nv k n tn tk N bv f)) (x : Value) : (w.setCell ⟨S, 8, none⟩ x).heap[S]? = some (oO o nm dst nv k n tn tk x bv f) := by
  have := heap_setCell_same w S 8 _ 91 x hS
  simpa using this
theorem qb9 {S : Nat} {o nm dst nv k n tn tk N bv f : Value} {w : World} (hS : w.heap[S]? = some (oO o nm dst nv k n tn tk N bv f)) (x : Value) : (w.setCell ⟨S, 9, none⟩ x).heap[S]? = some (oO o nm dst nv k n tn tk N x f) := by
  have := heap_setCell_same w S 9 _ 91 x hS
  simpa using this
theorem qb10 {S : Nat} {o nm dst nv k n tn tk N bv f : Value} {w : World} (hS : w.heap[S]? = some (oO o nm dst nv k n tn tk N bv f)) (x : Value) : (w.setCell ⟨S, 10, none⟩ x).heap[S]? = some (oO o nm dst nv k n tn tk N bv x) := by
  have := heap_setCell_same w S 10 _ 91 x hS
  simpa using this
abbrev setQ (w : World) (S : Nat) (o nm dst nv k n tn tk N bv f : Value) : World := (((((((((((w.setCell ⟨S, 0, none⟩ o).setCell ⟨S, 1, none⟩ nm).setCell ⟨S, 2, none⟩ dst).setCell ⟨S, 3, none⟩ nv).setCell ⟨S, 4, none⟩ k).setCell ⟨S, 5, none⟩ n).setCell ⟨S, 6, none⟩ tn).setCell ⟨S, 7, none⟩ tk).setCell ⟨S, 8, none⟩ N).setCell ⟨S, 9, none⟩ bv).setCell ⟨S, 10, none⟩ f)
theorem setQ_at {S : Nat} {o nm dst nv k n tn tk N bv f : Value} {w : World} (hS : w.heap[S]? = some (oO o nm dst nv k n tn tk N bv f)) (o' nm' dst' nv' k' n' tn' tk' N' bv' f' : Value) : (setQ w S o' nm' dst' nv' k' n' tn' tk' N' bv' f').heap[S]? = some (oO o' nm' dst' nv' k' n' tn' tk' N' bv' f') := (qb10 (qb9 (qb8 (qb7 (qb6 (qb5 (qb4 (qb3 (qb2 (qb1 (qb0 hS _) _) _) _) _) _) _) _) _) _) _)
theorem setQ_touch (w : World) (S : Nat) (o nm dst nv k n tn tk N bv f : Value) : Touch S w (setQ w S o nm dst nv k n tn tk N bv f) := ((((((((((((Touch.refl S w).setCell (p := ⟨S, 0, none⟩) rfl _).setCell (p := ⟨S, 1, none⟩) rfl _).setCell (p := ⟨S, 2, none⟩) rfl _).setCell (p := ⟨S, 3, none⟩) rfl _).setCell (p := ⟨S, 4, none⟩) rfl _).setCell (p := ⟨S, 5, none⟩) rfl _).setCell (p := ⟨S, 6, none⟩) rfl _).setCell (p := ⟨S, 7, none⟩) rfl _).setCell (p := ⟨S, 8, none⟩) rfl _).setCell (p := ⟨S, 9, none⟩) rfl _).setCell (p := ⟨S, 10, none⟩) rfl _)
theorem setQ_below {a w : World} {B S : Nat} (h : Below B a w) (hS : B ≤ S) (o nm dst nv k n tn tk N bv f : Value) : Below B a (setQ w S o nm dst nv k n tn tk N bv f) := (((((((((((h.setCell (p := ⟨S, 0, none⟩) hS _).setCell (p := ⟨S, 1, none⟩) hS _).setCell (p := ⟨S, 2, none⟩) hS _).setCell (p := ⟨S, 3, none⟩) hS _).setCell (p := ⟨S, 4, none⟩) hS _).setCell (p := ⟨S, 5, none⟩) hS _).setCell (p := ⟨S, 6, none⟩) hS _).setCell (p := ⟨S, 7, none⟩) hS _).setCell (p := ⟨S, 8, none⟩) hS _).setCell (p := ⟨S, 9, none⟩) hS _).setCell (p := ⟨S, 10, none⟩) hS _)
theorem vload91 {W : World} {b : Nat} {o nm dst nv k n tn tk N bv f : Value} (h : W.heap[b]? = some (oO o nm dst nv k n tn tk N bv f)) : (loadVar 91 ⟨b, 0, none⟩).run Tryz.prog W = .ok (.agg #[o, nm, dst, nv, k, n, tn, tk, N, bv, f]) W := by
  refine run_loadVar_mid _ _ 0 91 [o, nm, dst, nv, k, n, tn, tk, N, bv, f] _ (fun j u hu => ?_) Tryz.underlying91 rfl (by kernel_rfl)
  rw [Nat.zero_add, cell_of_row _ _ _ _ 91 (0, 0) h]
  simpa using hu
structure Qfs (w : World) (S : Nat) (o nm dst nv k n tn tk N bv f : Value) : Prop where
  c0 : w.cell? ⟨S, 0, none⟩ = some o
  c1 : w.cell? ⟨S, 1, none⟩ = some nm
  c2 : w.cell? ⟨S, 2, none⟩ = some dst
  c3 : w.cell? ⟨S, 3, none⟩ = some nv
  c4 : w.cell? ⟨S, 4, none⟩ = some k
  c5 : w.cell? ⟨S, 5, none⟩ = some n
  c6 : w.cell? ⟨S, 6, none⟩ = some tn
  c7 : w.cell? ⟨S, 7, none⟩ = some tk
  c8 : w.cell? ⟨S, 8, none⟩ = some N
  c9 : w.cell? ⟨S, 9, none⟩ = some bv
  c10 : w.cell? ⟨S, 10, none⟩ = some f
  f0 : w.frozen? ⟨S, 0, none⟩ = false
  f1 : w.frozen? ⟨S, 1, none⟩ = false
  f2 : w.frozen? ⟨S, 2, none⟩ = false
  f3 : w.frozen? ⟨S, 3, none⟩ = false
  f4 : w.frozen? ⟨S, 4, none⟩ = false
  f5 : w.frozen? ⟨S, 5, none⟩ = false
  f6 : w.frozen? ⟨S, 6, none⟩ = false
  f7 : w.frozen? ⟨S, 7, none⟩ = false
  f8 : w.frozen? ⟨S, 8, none⟩ = false
  f9 : w.frozen? ⟨S, 9, none⟩ = false
  f10 : w.frozen? ⟨S, 10, none⟩ = false
theorem qfs {S : Nat} {o nm dst nv k n tn tk N bv f : Value} {w : World} (h : w.heap[S]? = some (oO o nm dst nv k n tn tk N bv f)) : Qfs w S o nm dst nv k n tn tk N bv f :=
  ⟨blk_cell h 0, blk_cell h 1, blk_cell h 2, blk_cell h 3, blk_cell h 4, blk_cell h 5, blk_cell h 6, blk_cell h 7, blk_cell h 8, blk_cell h 9, blk_cell h 10, blk_frozen h 0, blk_frozen h 1, blk_frozen h 2, blk_frozen h 3, blk_frozen h 4, blk_frozen h 5, blk_frozen h 6, blk_frozen h 7, blk_frozen h 8, blk_frozen h 9, blk_frozen h 10⟩
abbrev smZ : Sm := .mk 0 0 [] [] [] ty0 []
abbrev zO : Obj := oO (i64 0) (str []) (str []) nilS (i64 0) (i64 0) nilS nilS (i64 0) nilS (.bool false)
def OneOk (w : World) (S : Nat → Prop) (r : Option Sm) (e : Ending) (w' : World) : Prop :=
  (∃ nv tn tk, e = .returned (.agg #[i64 (r.getD smZ).op, str (r.getD smZ).nm, str (r.getD smZ).dst, nv, i64 (r.getD smZ).ty.kind, i64 (r.getD smZ).ty.num, tn, tk, i64 (r.getD smZ).num, nilS, .bool r.isSome]) ∧ Sd w' (fun b => S b ∨ w.heap.size ≤ b) (r.getD smZ) ⟨nv, tn, tk, nilS⟩) ∧ Below w.heap.size w w'
theorem sd_Z (w : World) (S : Nat → Prop) : Sd w S smZ ⟨nilS, nilS, nilS, nilS⟩ :=
  Sd.of ⟨none, 0, rfl, Nat.zero_le _, ⟨Nat.le_refl _, fun x hx => by cases hx⟩, Or.inl rfl⟩ (.mk (kids := []) 0 0 (fun _ => undef) (fun _ => undef) ⟨none, 0, rfl, Nat.zero_le _, ⟨Nat.le_refl _, fun x hx => by cases hx⟩, Or.inl rfl⟩ (Nat.zero_le _) (Or.inl rfl) (fun i T hT => by simp at hT) (fun i T hT => by simp at hT)) (Sds.nil _ _)
theorem one_no {w X : World} {S : Nat → Prop} {R : Nat} (_ : X.heap[R]? = some zO) (hR : w.heap.size ≤ R) (hb : Below w.heap.size w X) : OneOk w S none (.returned (.agg #[i64 0, str [], str [], nilS, i64 0, i64 0, nilS, nilS, i64 0, nilS, .bool false])) (setQ X R (i64 0) (str []) (str []) nilS (i64 0) (i64 0) nilS nilS (i64 0) nilS (.bool false)) :=
  ⟨⟨nilS, nilS, nilS, rfl, sd_Z _ _⟩, setQ_below hb hR _ _ _ _ _ _ _ _ _ _ _⟩
theorem one_yes {w X : World} {S : Nat → Prop} {R : Nat} {op num : Int} {nm ds : Bs} {names : List Bs} {t : Ty} {nv tn tk : Value} (hR : w.heap.size ≤ R) (hb : Below w.heap.size w X) (hs : Sd X (fun b => b ≠ R ∧ (S b ∨ w.heap.size ≤ b)) (.mk op num nm ds names t []) ⟨nv, tn, tk, nilS⟩) :
    OneOk w S (some (.mk op num nm ds names t [])) (.returned (.agg #[i64 op, str nm, str ds, nv, i64 t.kind, i64 t.num, tn, tk, i64 num, nilS, .bool true])) (setQ X R (i64 op) (str nm) (str ds) nv (i64 t.kind) (i64 t.num) tn tk (i64 num) nilS (.bool true)) := by
  have h1 := setQ_touch X R (i64 op) (str nm) (str ds) nv (i64 t.kind) (i64 t.num) tn tk (i64 num) nilS (.bool true)
  exact ⟨⟨nv, tn, tk, rfl, hs.move h1.size fun b hb hlt => ⟨hb.2, h1.block b hlt hb.1⟩⟩, setQ_below hb hR _ _ _ _ _ _ _ _ _ _ _⟩
structure On0 (w X : World) (R b off : Nat) (ws : List Bs) : Prop where
  hR : X.heap[R]? = some zO
  hc : ∀ i x, ws[i]? = some x → X.cell? ⟨b, off + i, none⟩ = some (str x)
  hb : b < w.heap.size
  bel : Below w.heap.size w X
theorem On0.below {w X Y : World} {R b off : Nat} {ws : List Bs} (h : On0 w X R b off ws) (hb : Below X.heap.size X Y) : On0 w Y R b off ws :=
  ⟨blk_below h.hR hb, fun i x hx => (hb.cell (Nat.lt_of_lt_of_le h.hb h.bel.size)).trans (h.hc i x hx), h.hb, h.bel.trans (hb.mono h.bel.size)⟩
structure Zfs (w : World) (S : Nat) (o nm dst nv k n tn tk N bv : Value) : Prop where
  c0 : w.cell? ⟨S, 0, none⟩ = some o
  c1 : w.cell? ⟨S, 1, none⟩ = some nm
  c2 : w.cell? ⟨S, 2, none⟩ = some dst
  c3 : w.cell? ⟨S, 3, none⟩ = some nv
  c4 : w.cell? ⟨S, 4, none⟩ = some k
  c5 : w.cell? ⟨S, 5, none⟩ = some n
  c6 : w.cell? ⟨S, 6, none⟩ = some tn
  c7 : w.cell? ⟨S, 7, none⟩ = some tk
  c8 : w.cell? ⟨S, 8, none⟩ = some N
  c9 : w.cell? ⟨S, 9, none⟩ = some bv
  f0 : w.frozen? ⟨S, 0, none⟩ = false
  f1 : w.frozen? ⟨S, 1, none⟩ = false
  f2 : w.frozen? ⟨S, 2, none⟩ = false
  f3 : w.frozen? ⟨S, 3, none⟩ = false
  f4 : w.frozen? ⟨S, 4, none⟩ = false
  f5 : w.frozen? ⟨S, 5, none⟩ = false
  f6 : w.frozen? ⟨S, 6, none⟩ = false
  f7 : w.frozen? ⟨S, 7, none⟩ = false
  f8 : w.frozen? ⟨S, 8, none⟩ = false
  f9 : w.frozen? ⟨S, 9, none⟩ = false
theorem zfs {S : Nat} {o nm dst nv k n tn tk N bv : Value} {w : World} (h : w.heap[S]? = some (sbE o nm dst nv k n tn tk N bv)) : Zfs w S o nm dst nv k n tn tk N bv :=
  ⟨blk_cell h 0, blk_cell h 1, blk_cell h 2, blk_cell h 3, blk_cell h 4, blk_cell h 5, blk_cell h 6, blk_cell h 7, blk_cell h 8, blk_cell h 9, blk_frozen h 0, blk_frozen h 1, blk_frozen h 2, blk_frozen h 3, blk_frozen h 4, blk_frozen h 5, blk_frozen h 6, blk_frozen h 7, blk_frozen h 8, blk_frozen h 9⟩

theorem readR_nil (o : Nat) : readR o [] = none := by
  unfold readR
  split
  · rfl
  split
  · rfl
  split <;> rfl
theorem readR_bad (o : Nat) (a : Bs) (r : List Bs) (h : nameB a = false) : readR o (a :: r) = none := by
  unfold readR
  split
  · cases r with
    | nil => rfl
    | cons b r => simp only [h]; rfl
  split
  · rcases r with _ | ⟨b, _ | ⟨c, r⟩⟩
    · rfl
    · rfl
    · simp only [h]; rfl
  split
  · cases r with
    | nil => rfl
    | cons b r => simp only [h]; rfl
  · simp only [h]; rfl
theorem zb2 {S : Nat} {o nm dst nv k n tn tk N bv : Value} {w : World} (hS : w.heap[S]? = some (sbE o nm dst nv k n tn tk N bv)) (x : Value) : (w.setCell ⟨S, 2, none⟩ x).heap[S]? = some (sbE o nm x nv k n tn tk N bv) := by
  have := heap_setCell_same w S 2 _ 66 x hS
  simpa using this
theorem zb3 {S : Nat} {o nm dst nv k n tn tk N bv : Value} {w : World} (hS : w.heap[S]? = some (sbE o nm dst nv k n tn tk N bv)) (x : Value) : (w.setCell ⟨S, 3, none⟩ x).heap[S]? = some (sbE o nm dst x k n tn tk N bv) := by
  have := heap_setCell_same w S 3 _ 66 x hS
  simpa using this
theorem zb4 {S : Nat} {o nm dst nv k n tn tk N bv : Value} {w : World} (hS : w.heap[S]? = some (sbE o nm dst nv k n tn tk N bv)) (x : Value) : (w.setCell ⟨S, 4, none⟩ x).heap[S]? = some (sbE o nm dst nv x n tn tk N bv) := by
  have := heap_setCell_same w S 4 _ 66 x hS
  simpa using this
theorem zb5 {S : Nat} {o nm dst nv k n tn tk N bv : Value} {w : World} (hS : w.heap[S]? = some (sbE o nm dst nv k n tn tk N bv)) (x : Value) : (w.setCell ⟨S, 5, none⟩ x).heap[S]? = some (sbE o nm dst nv k x tn tk N bv) := by
  have := heap_setCell_same w S 5 _ 66 x hS
  simpa using this
theorem zb6 {S : Nat} {o nm dst nv k n tn tk N bv : Value} {w : World} (hS : w.heap[S]? = some (sbE o nm dst nv k n tn tk N bv)) (x : Value) : (w.setCell ⟨S, 6, none⟩ x).heap[S]? = some (sbE o nm dst nv k n x tk N bv) := by
  have := heap_setCell_same w S 6 _ 66 x hS
  simpa using this
theorem zb7 {S : Nat} {o nm dst nv k n tn tk N bv : Value} {w : World} (hS : w.heap[S]? = some (sbE o nm dst nv k n tn tk N bv)) (x : Value) : (w.setCell ⟨S, 7, none⟩ x).heap[S]? = some (sbE o nm dst nv k n tn x N bv) := by
  have := heap_setCell_same w S 7 _ 66 x hS
  simpa using this
theorem zb8 {S : Nat} {o nm dst nv k n tn tk N bv : Value} {w : World} (hS : w.heap[S]? = some (sbE o nm dst nv k n tn tk N bv)) (x : Value) : (w.setCell ⟨S, 8, none⟩ x).heap[S]? = some (sbE o nm dst nv k n tn tk x bv) := by
  have := heap_setCell_same w S 8 _ 66 x hS
  simpa using this
theorem On0.touch {w X Y : World} {R b off Z : Nat} {ws : List Bs} (h : On0 w X R b off ws) (ht : Touch Z X Y) (hRZ : R ≠ Z) (hw : w.heap.size ≤ Z) : On0 w Y R b off ws :=
  ⟨by rw [ht.block R (blk_lt h.hR) hRZ]; exact h.hR, fun i x hx => by
    rw [World.cell?_of_block (w := X) (ht.block b (Nat.lt_of_lt_of_le h.hb h.bel.size) (by have := h.hb; omega))]; exact h.hc i x hx, h.hb, h.bel.trans (ht.below hw h.bel.size)⟩
theorem rd1_no (a : Bs) (r : List Bs) (hr : r.length ≠ 1) : readR 1 (a :: r) = none := by
  rcases r with _ | ⟨c, _ | ⟨d, r⟩⟩
  · rfl
  · simp at hr
  · simp [readR, namesR, leastF]
theorem rd1 (a c : Bs) (ha : nameB a = true) : readR 1 [a, c] = if nameB c = true then some (.mk 1 0 a c [] ty0 []) else none := by
  simp [readR, namesR, leastF, ha]
theorem rd259 (o : Nat) (h : o = 2 ∨ o = 5 ∨ o = 9) (a : Bs) (r : List Bs) (ha : nameB a = true) : readR o (a :: r) = if r = [] then some (.mk o 0 a [] [] ty0 []) else none := by
  rcases h with rfl | rfl | rfl <;> by_cases h : r = [] <;> simp [readR, namesR, leastF, ha, h]
theorem rd3_no (a : Bs) (r : List Bs) (hr : r.length ≠ 2) : readR 3 (a :: r) = none := by
  rcases r with _ | ⟨c, _ | ⟨d, _ | ⟨e, r⟩⟩⟩
  · rfl
  · rfl
  · simp at hr
  · simp [readR]
theorem rd3 (a p c : Bs) (ha : nameB a = true) : readR 3 [a, p, c] = match parseF p, numW c with | some t, some n => some (.mk 3 n a [] [] t []) | _, _ => none := by
  simp [readR, ha]; rfl
theorem rd4_no (a : Bs) (r : List Bs) (hr : r.length ≠ 1) : readR 4 (a :: r) = none := by
  rcases r with _ | ⟨c, _ | ⟨d, r⟩⟩
  · rfl
  · simp at hr
  · simp [readR]
theorem rd4 (a c : Bs) (ha : nameB a = true) : readR 4 [a, c] = match numW c with | some n => some (.mk 4 n a [] [] ty0 []) | none => none := by
  simp [readR, ha]; rfl
theorem rd6_no (a : Bs) (r : List Bs) (hr : r.length < 3 ∨ r.all nameB = false) : readR 6 (a :: r) = none := by
  rcases r with _ | ⟨c, r⟩
  · rfl
  · rcases hr with hr | hr
    · have : r.length < 2 := by simp only [List.length_cons] at hr; omega
      simp [readR, namesR, leastF, this]
    · rw [List.all_cons, Bool.and_eq_false_iff] at hr
      rcases hr with hr | hr
      · simp [readR, hr]
      · simp only [readR, namesR, leastF, hr]; simp
theorem rd6 (a c : Bs) (r : List Bs) (ha : nameB a = true) (hl : 3 ≤ (c :: r).length) (hr : (c :: r).all nameB = true) : readR 6 (a :: c :: r) = some (.mk 6 0 a c r ty0 []) := by
  rw [List.all_cons, Bool.and_eq_true] at hr
  have : ¬ r.length < 2 := by simp only [List.length_cons] at hl; omega
  simp only [readR, namesR, leastF, ha, hr.1, hr.2, if_neg this]; simp
theorem rd78_no (o : Nat) (h : o = 7 ∨ o = 8) (a : Bs) (r : List Bs) (hr : r.length < 1 ∨ r.all nameB = false) : readR o (a :: r) = none := by
  rcases hr with hr | hr
  · rcases h with rfl | rfl <;> simp only [readR, namesR, leastF, if_pos hr] <;> simp
  · rcases h with rfl | rfl <;> simp only [readR, namesR, leastF, hr] <;> simp
theorem rd78 (o : Nat) (h : o = 7 ∨ o = 8) (a : Bs) (r : List Bs) (ha : nameB a = true) (hl : 1 ≤ r.length) (hr : r.all nameB = true) : readR o (a :: r) = some (.mk o 0 a [] r ty0 []) := by
  have : ¬ r.length < 1 := by omega
  rcases h with rfl | rfl <;> simp only [readR, namesR, leastF, ha, hr, if_neg this] <;> simp
theorem len_two {r : List Bs} (h : r.length = 2) : ∃ p c, r = [p, c] := by
  rcases r with _ | ⟨p, _ | ⟨c, _ | ⟨d, r⟩⟩⟩ <;> simp at h
  exact ⟨p, c, rfl⟩
theorem numI_neg {c : Bs} (h : numW c = none) : qnumI c = -1 := by unfold qnumI; rw [h]
theorem numI_pos {c : Bs} {n : Nat} (h : numW c = some n) : qnumI c = n := by unfold qnumI; rw [h]
theorem numW_le {c : Bs} {n : Nat} (h : numW c = some n) : n ≤ 4294967295 := by
  unfold numW at h; split at h
  · cases h; rename_i h; exact h.2.2.2
  · cases h
set_option maxHeartbeats 25600000 in
theorem one_ok (ws : List Bs) (w : World) (S : Nat → Prop) (v : Value) (h : Strs w S v ws) (hne : ws ≠ []) (hn : ws.length ≤ 100000) (hx : ∀ x ∈ ws, x.length ≤ 90000) : Calls Tryz.prog 35 #[v] w (OneOk w S (readS ws)) := by
  obtain ⟨ao, cap, rfl, _, h2, h3⟩ := h
  rcases h3 with rfl | ⟨b, off, rfl, hbS, hbl, hcell⟩
  · exact absurd rfl hne
  obtain ⟨w0, r0, rfl⟩ : ∃ a r, ws = a :: r := by cases ws with | nil => exact absurd rfl hne | cons a r => exact ⟨a, r, rfl⟩
  obtain ⟨res, hres⟩ : ∃ res, res = readS (w0 :: r0) := ⟨_, rfl⟩
  rw [← hres]
  have HRes0 : Hid (res = if opF w0 = 0 then none else readR (opF w0) r0) := hres
  have HX := hid hx
  have hcp := h2.1
  have HS := hid hbS
  have HI0 : Hid (On0 w (w.alloc zO) w.heap.size b off (w0 :: r0)) := ⟨heap_last w _, fun i x hx => ((below_one w zO).cell hbl).trans (hcell i x hx), hbl, below_one w _⟩
  clear hres hcell hne hx h2 hbl hbS
  go_enter Tryz.func35, Tryz.ntmps35
  go_upto_region 1 with fail
  obtain ⟨R, hR⟩ : ∃ R, R = w.heap.size := ⟨_, rfl⟩
  have HRe : Hid (w.heap.size ≤ R) := by show _ ≤ _; omega
  have HRq : Hid (R = w.heap.size) := hR
  rw [← hR] at HI0 ⊢
  clear hR
  generalize w.alloc zO = V at *
  have x0 := HI0.out.hc 0 w0 rfl
  rw [Nat.add_zero] at x0
  have HOP := hid (qropOf_ok w0 V)
  have hop9 : opF w0 ≤ 9 := opF_le w0
  generalize opF w0 = o at *
  go_wp2_with fail
  refine HOP.out.mono ?_
  rintro e w1 ⟨rfl, hb⟩
  have HI := hid (HI0.out.below hb)
  clear hb HOP HI0 x0
  have hoI : (0 : Int) ≤ (o : Int) := by omega
  have ho9 : (o : Int) ≤ 9 := by omega
  by_cases h0 : o = 0
  · subst h0
    have HRes : Hid (res = none) := HRes0.out
    obtain ⟨rc0, rc1, rc2, rc3, rc4, rc5, rc6, rc7, rc8, rc9, rc10, rf0, rf1, rf2, rf3, rf4, rf5, rf6, rf7, rf8, rf9, rf10⟩ := qfs HI.out.hR
    have HRX := hid HI.out.hR
    have HBX := hid HI.out.bel
    clear HI
    go_wp2_with fail
    refine bodyPost_ret (v := .agg #[i64 0, str [], str [], nilS, i64 0, i64 0, nilS, nilS, i64 0, nilS, .bool false]) (results_one Tryz.results35 rfl (vload91 (setQ_at HRX.out _ _ _ _ _ _ _ _ _ _ _))) rfl ?_
    rw [HRes.out]
    exact one_no HRX.out HRe.out HBX.out
  have HRes1 : Hid (res = readR o r0) := by show _ = _; rw [HRes0.out, if_neg h0]
  have hob : ((o : Int) == 0) = false := by
    have : (o : Int) ≠ 0 := by omega
    simpa using this
  clear HRes0 h0
  cases r0 with
  | nil =>
    have HRes : Hid (res = none) := by
      show _ = _
      rw [HRes1.out]; exact readR_nil o
    obtain ⟨rc0, rc1, rc2, rc3, rc4, rc5, rc6, rc7, rc8, rc9, rc10, rf0, rf1, rf2, rf3, rf4, rf5, rf6, rf7, rf8, rf9, rf10⟩ := qfs HI.out.hR
    have HRX := hid HI.out.hR
    have HBX := hid HI.out.bel
    clear HI
    go_wp2_with fail
    refine bodyPost_ret (v := .agg #[i64 0, str [], str [], nilS, i64 0, i64 0, nilS, nilS, i64 0, nilS, .bool false]) (results_one Tryz.results35 rfl (vload91 (setQ_at HRX.out _ _ _ _ _ _ _ _ _ _ _))) rfl ?_
    rw [HRes.out]
    exact one_no HRX.out HRe.out HBX.out
  | cons a r =>
    have x1 := HI.out.hc 1 a rfl
    have HNM := hid (rname_ok a w1 (by have := HX.out a (by simp); unfold maxLen; omega))
    obtain ⟨L, hL⟩ : ∃ L, L = (a :: r).length + 1 := ⟨_, rfl⟩
    have HLe : Hid (L = r.length + 2) := hL
    have hL2 : 2 ≤ L := by have := HLe.out; omega
    have hn2 : L ≤ 100000 := by have := HLe.out; simp only [List.length_cons] at hn; omega
    have hcp2 : L ≤ cap := by have := HLe.out; simp only [List.length_cons] at hcp; omega
    rw [← hL]
    clear hn hcp hL
    go_wp2_with fail
    refine HNM.out.mono ?_
    rintro e w2 ⟨rfl, hw2⟩
    replace hw2 := hw2.symm
    subst hw2
    clear HNM
    cases hna : nameB a with
    | false =>
      have HRes : Hid (res = none) := by
        show _ = _
        rw [HRes1.out]; exact readR_bad o a r hna
      clear hna
      go_simp
      obtain ⟨rc0, rc1, rc2, rc3, rc4, rc5, rc6, rc7, rc8, rc9, rc10, rf0, rf1, rf2, rf3, rf4, rf5, rf6, rf7, rf8, rf9, rf10⟩ := qfs HI.out.hR
      have HRX := hid HI.out.hR
      have HBX := hid HI.out.bel
      clear HI
      go_wp2_with fail
      refine bodyPost_ret (v := .agg #[i64 0, str [], str [], nilS, i64 0, i64 0, nilS, nilS, i64 0, nilS, .bool false]) (results_one Tryz.results35 rfl (vload91 (setQ_at HRX.out _ _ _ _ _ _ _ _ _ _ _))) rfl ?_
      rw [HRes.out]
      exact one_no HRX.out HRe.out HBX.out
    | true =>
      have HNA := hid hna
      clear hna
      go_simp
      go_upto_region 6 with fail
      have HZ0 : Hid ((w1.alloc (sbE (i64 (o : Int)) (str a) (str []) nilS (i64 0) (i64 0) nilS nilS (i64 0) nilS)).heap[w1.heap.size]? = some (sbE (i64 (o : Int)) (str a) (str []) nilS (i64 0) (i64 0) nilS nilS (i64 0) nilS)) := heap_last w1 _
      have HI2 := hid (HI.out.below (below_one w1 (sbE (i64 (o : Int)) (str a) (str []) nilS (i64 0) (i64 0) nilS nilS (i64 0) nilS)))
      have HRZ0 : Hid (R < w1.heap.size) := blk_lt HI.out.hR
      obtain ⟨Z, hZ⟩ : ∃ Z, Z = w1.heap.size := ⟨_, rfl⟩
      have HZR : Hid (R < Z) := by show _ < _; rw [hZ]; exact HRZ0.out
      rw [← hZ] at HZ0 ⊢
      clear HI hZ HRZ0
      generalize w1.alloc (sbE (i64 (o : Int)) (str a) (str []) nilS (i64 0) (i64 0) nilS nilS (i64 0) nilS) = V at *
      have HRA0 : Hid (r ≠ [] → (if cap = 2 then some (⟨b, off, none⟩ : Addr) else some ⟨b, off + 2, none⟩) = some ⟨b, off + 2, none⟩) := fun hr => if_neg (by have := HLe.out; have := List.length_pos_iff.2 hr; omega)
      generalize (if cap = 2 then some (⟨b, off, none⟩ : Addr) else some ⟨b, off + 2, none⟩) = ra at *
      obtain ⟨M, hM⟩ : ∃ M, M = L - 2 := ⟨_, rfl⟩
      have HMe : Hid (M = r.length) := by show _ = _; have := HLe.out; omega
      have hM5 : M ≤ 100000 := by omega
      obtain ⟨cr, hcr⟩ : ∃ cr, cr = cap - 2 := ⟨_, rfl⟩
      have hMc : M ≤ cr := by omega
      rw [← hM, ← hcr]
      have HI := hid HI2.out
      have HZ := hid HZ0.out
      have HXr : Hid (∀ x ∈ r, x.length ≤ 90000) := fun x hx => HX.out x (by simp [hx])
      have HCr : Hid (∀ i x, r[i]? = some x → V.cell? ⟨b, off + 2 + i, none⟩ = some (str x)) := fun i x hx => by
        have := HI.out.hc (2 + i) x (by rw [show 2 + i = i + 1 + 1 by omega]; simpa using hx)
        rw [show off + 2 + i = off + (2 + i) by omega]; exact this
      have HSR : Hid (Strs V (fun k => k = b) (.slice ra M cr) r) := by
        refine ⟨ra, cr, by rw [HMe.out], by rw [← HMe.out]; unfold maxLen; omega, ⟨by rw [← HMe.out]; exact hMc, fun x hx => by have := HXr.out x hx; unfold maxLen; omega⟩, ?_⟩
        by_cases hr : r = []
        · exact Or.inl hr
        · exact Or.inr ⟨b, off + 2, HRA0.out hr, rfl, Nat.lt_of_lt_of_le HI.out.hb HI.out.bel.size, HCr.out⟩
      have HbR : Hid (b < R) := by show _ < _; rw [HRq.out]; exact HI.out.hb
      have HNN : Hid (∀ W : World, Strs W (fun k => k = b) nilS []) := fun W => ⟨none, 0, rfl, Nat.zero_le _, ⟨Nat.le_refl _, fun x hx => by cases hx⟩, Or.inl rfl⟩
      have HTN : Hid (∀ W : World, Rd W (fun k => k ≠ R ∧ (S k ∨ w.heap.size ≤ k)) ty0 nilS nilS) := fun W => .mk (kids := []) 0 0 (fun _ => undef) (fun _ => undef) ⟨none, 0, rfl, Nat.zero_le _, ⟨Nat.le_refl _, fun x hx => by cases hx⟩, Or.inl rfl⟩ (Nat.zero_le _) (Or.inl rfl) (fun i T hT => by simp at hT) (fun i T hT => by simp at hT)
      have HbS : Hid (∀ k, k = b → k ≠ R ∧ (S k ∨ w.heap.size ≤ k)) := fun k hk => by subst hk; exact ⟨by have := HbR.out; omega, Or.inl HS.out⟩
      clear HI2 HZ0 HX HLe hL2 hn2 hcp2 hM hcr x1
      have hM0 : (0 : Int) ≤ (M : Int) := by omega
      have : o = 1 ∨ o = 2 ∨ o = 3 ∨ o = 4 ∨ o = 5 ∨ o = 6 ∨ o = 7 ∨ o = 8 ∨ o = 9 := by
        have : (o : Int) ≠ 0 := fun e => by rw [e] at hob; simp at hob
        omega
      clear hob hoI ho9 hop9
      rcases this with rfl | rfl | rfl | rfl | rfl | rfl | rfl | rfl | rfl
      · -- 1
        by_cases hm : M = 1
        · obtain ⟨c, rfl⟩ : ∃ c, r = [c] := List.length_eq_one_iff.1 (by rw [← HMe.out]; exact hm)
          subst hm
          have hra := HRA0.out (by simp)
          subst hra
          have y0 := HCr.out 0 c rfl
          rw [Nat.add_zero] at y0
          have HNM := hid (rname_ok c V (by have := HXr.out c (by simp); unfold maxLen; omega))
          go_wp2_with fail
          refine HNM.out.mono ?_
          rintro e w2 ⟨rfl, hw2⟩
          replace hw2 := hw2.symm
          subst hw2
          clear HNM
          cases hnc : nameB c with
          | false =>
            go_simp
            have HRes : Hid (res = none) := by show _ = _; rw [HRes1.out]; exact by rw [rd1 a c HNA.out, if_neg (by rw [hnc]; simp)]
            obtain ⟨rc0, rc1, rc2, rc3, rc4, rc5, rc6, rc7, rc8, rc9, rc10, rf0, rf1, rf2, rf3, rf4, rf5, rf6, rf7, rf8, rf9, rf10⟩ := qfs HI.out.hR
            have HRX := hid HI.out.hR
            have HBX := hid HI.out.bel
            clear HI HZ
            go_wp2_with fail
            refine bodyPost_ret (v := .agg #[i64 0, str [], str [], nilS, i64 0, i64 0, nilS, nilS, i64 0, nilS, .bool false]) (results_one Tryz.results35 rfl (vload91 (setQ_at HRX.out _ _ _ _ _ _ _ _ _ _ _))) rfl ?_
            rw [HRes.out]
            exact one_no HRX.out HRe.out HBX.out
          | true =>
            have HRes : Hid (res = some (.mk 1 0 a c [] ty0 [])) := by show _ = _; rw [HRes1.out, rd1 a c HNA.out, if_pos hnc]
            clear hnc
            go_simp
            have zf2 := blk_frozen HZ.out 2
            have zc2 := blk_cell HZ.out 2
            have HZ2 := hid (zb2 HZ.out (str c))
            have HI2 := hid (HI.out.touch ((Touch.refl Z V).setCell (p := ⟨Z, 2, none⟩) rfl (str c)) (by have := HZR.out; omega) (by have := HZR.out; have := HRq.out; omega))
            go_upto_region 38 with fail
            clear zf2 zc2 y0 HCr HSR HI HZ
            generalize V.setCell ⟨Z, 2, none⟩ (str c) = V2 at *
            have HI := hid HI2.out
            have HZ := hid HZ2.out
            clear HI2 HZ2
            have HSD : Hid (Sd V2 (fun k => k ≠ R ∧ (S k ∨ w.heap.size ≤ k)) (.mk 1 0 a c [] ty0 []) ⟨nilS, nilS, nilS, nilS⟩) := Sd.of ((HNN.out V2).mono fun k hk _ => HbS.out k hk) (HTN.out V2) (Sds.nil _ _)
            obtain ⟨zc0, zc1, zc2, zc3, zc4, zc5, zc6, zc7, zc8, zc9, zf0, zf1, zf2, zf3, zf4, zf5, zf6, zf7, zf8, zf9⟩ := zfs HZ.out
            obtain ⟨rc0, rc1, rc2, rc3, rc4, rc5, rc6, rc7, rc8, rc9, rc10, rf0, rf1, rf2, rf3, rf4, rf5, rf6, rf7, rf8, rf9, rf10⟩ := qfs HI.out.hR
            have HBX := hid HI.out.bel
            have HRX := hid HI.out.hR
            clear HI HZ
            go_wp2_with fail
            refine bodyPost_ret (v := .agg #[i64 1, str a, str c, nilS, i64 0, i64 0, nilS, nilS, i64 0, nilS, .bool true]) (results_one Tryz.results35 rfl (vload91 (setQ_at HRX.out _ _ _ _ _ _ _ _ _ _ _))) rfl ?_
            rw [HRes.out]
            exact one_yes HRe.out HBX.out HSD.out
        · have hmb : ((M : Int) != 1) = true := ibne2 (by omega)
          have HRes : Hid (res = none) := by show _ = _; rw [HRes1.out]; exact rd1_no a r (by rw [← HMe.out]; exact hm)
          obtain ⟨rc0, rc1, rc2, rc3, rc4, rc5, rc6, rc7, rc8, rc9, rc10, rf0, rf1, rf2, rf3, rf4, rf5, rf6, rf7, rf8, rf9, rf10⟩ := qfs HI.out.hR
          have HRX := hid HI.out.hR
          have HBX := hid HI.out.bel
          clear HI HZ
          go_wp2_with fail
          refine bodyPost_ret (v := .agg #[i64 0, str [], str [], nilS, i64 0, i64 0, nilS, nilS, i64 0, nilS, .bool false]) (results_one Tryz.results35 rfl (vload91 (setQ_at HRX.out _ _ _ _ _ _ _ _ _ _ _))) rfl ?_
          rw [HRes.out]
          exact one_no HRX.out HRe.out HBX.out
      · -- 2
        by_cases hm : M = 0
        · obtain rfl : r = [] := List.length_eq_zero_iff.1 (by rw [← HMe.out]; exact hm)
          subst hm
          have HRes : Hid (res = some (.mk 2 0 a [] [] ty0 [])) := by show _ = _; rw [HRes1.out, rd259 2 (by omega) a [] HNA.out, if_pos rfl]; rfl
          have HSD : Hid (Sd V (fun k => k ≠ R ∧ (S k ∨ w.heap.size ≤ k)) (.mk 2 0 a [] [] ty0 []) ⟨nilS, nilS, nilS, nilS⟩) := Sd.of ((HNN.out V).mono fun k hk _ => HbS.out k hk) (HTN.out V) (Sds.nil _ _)
          obtain ⟨zc0, zc1, zc2, zc3, zc4, zc5, zc6, zc7, zc8, zc9, zf0, zf1, zf2, zf3, zf4, zf5, zf6, zf7, zf8, zf9⟩ := zfs HZ.out
          obtain ⟨rc0, rc1, rc2, rc3, rc4, rc5, rc6, rc7, rc8, rc9, rc10, rf0, rf1, rf2, rf3, rf4, rf5, rf6, rf7, rf8, rf9, rf10⟩ := qfs HI.out.hR
          have HBX := hid HI.out.bel
          have HRX := hid HI.out.hR
          clear HI HZ
          go_wp2_with fail
          refine bodyPost_ret (v := .agg #[i64 2, str a, str [], nilS, i64 0, i64 0, nilS, nilS, i64 0, nilS, .bool true]) (results_one Tryz.results35 rfl (vload91 (setQ_at HRX.out _ _ _ _ _ _ _ _ _ _ _))) rfl ?_
          rw [HRes.out]
          exact one_yes HRe.out HBX.out HSD.out
        · have hm1 : (0 : Int) < (M : Int) := by omega
          have HRes : Hid (res = none) := by show _ = _; rw [HRes1.out]; exact by rw [rd259 2 (by omega) a r HNA.out, if_neg (fun e => hm (by rw [HMe.out, e]; rfl))]
          obtain ⟨rc0, rc1, rc2, rc3, rc4, rc5, rc6, rc7, rc8, rc9, rc10, rf0, rf1, rf2, rf3, rf4, rf5, rf6, rf7, rf8, rf9, rf10⟩ := qfs HI.out.hR
          have HRX := hid HI.out.hR
          have HBX := hid HI.out.bel
          clear HI HZ
          go_wp2_with fail
          refine bodyPost_ret (v := .agg #[i64 0, str [], str [], nilS, i64 0, i64 0, nilS, nilS, i64 0, nilS, .bool false]) (results_one Tryz.results35 rfl (vload91 (setQ_at HRX.out _ _ _ _ _ _ _ _ _ _ _))) rfl ?_
          rw [HRes.out]
          exact one_no HRX.out HRe.out HBX.out
      · by_cases hm : M = 2
        · obtain ⟨p, c, rfl⟩ : ∃ p c, r = [p, c] := len_two (by rw [← HMe.out]; exact hm)
          subst hm
          have hra := HRA0.out (by simp)
          subst hra
          have y0 := HCr.out 0 p rfl
          rw [Nat.add_zero] at y0
          have y1 := HCr.out 1 c rfl
          have HNM := hid (qrnum_ok c V (by have := HXr.out c (by simp); unfold maxLen; omega))
          cases hnc : numW c with
          | none =>
            rw [numI_neg hnc] at HNM
            go_wp2_with fail
            refine HNM.out.mono ?_
            rintro e w2 ⟨rfl, hw2⟩
            replace hw2 := hw2.symm
            subst hw2
            clear HNM
            go_simp
            have HRes : Hid (res = none) := by show _ = _; rw [HRes1.out]; exact by rw [rd3 a p c HNA.out, hnc]; cases parseF p <;> rfl
            obtain ⟨rc0, rc1, rc2, rc3, rc4, rc5, rc6, rc7, rc8, rc9, rc10, rf0, rf1, rf2, rf3, rf4, rf5, rf6, rf7, rf8, rf9, rf10⟩ := qfs HI.out.hR
            have HRX := hid HI.out.hR
            have HBX := hid HI.out.bel
            clear HI HZ
            go_wp2_with fail
            refine bodyPost_ret (v := .agg #[i64 0, str [], str [], nilS, i64 0, i64 0, nilS, nilS, i64 0, nilS, .bool false]) (results_one Tryz.results35 rfl (vload91 (setQ_at HRX.out _ _ _ _ _ _ _ _ _ _ _))) rfl ?_
            rw [HRes.out]
            exact one_no HRX.out HRe.out HBX.out
          | some n =>
            rw [numI_pos hnc] at HNM
            have HNc := hid hnc
            have hn9 := numW_le hnc
            have hn0 : (0 : Int) ≤ (n : Int) := by omega
            clear hnc
            have HPA : Hid (Calls Tryz.prog 50 #[str p] V (ParOk V p)) := rparse_ok ⟨p.toArray⟩ V (by have := HXr.out p (by simp); simpa [ByteArray.size] using this)
            go_wp2_with fail
            refine HNM.out.mono ?_
            rintro e w2 ⟨rfl, hw2⟩
            replace hw2 := hw2.symm
            subst hw2
            clear HNM
            go_simp
            go_wp2_with fail
            refine HPA.out.mono ?_
            rintro e w2 ⟨a1, n1, c1, a2, n2, c2, rfl, hb2, hrd⟩
            have HI2 := hid (HI.out.below hb2)
            have HZ2 := hid (blk_below HZ.out hb2)
            have HVs := hid hb2.size
            have HRD := hid hrd
            have HRe3 : Hid (R < V.heap.size ∧ Z < V.heap.size) := ⟨blk_lt HI.out.hR, blk_lt HZ.out⟩
            have HI3 := hid (HI2.out.below (below_one w2 (.cells #[i64 (parT p).kind, i64 (parT p).num, .slice a1 n1 c1, .slice a2 n2 c2] 64)))
            have HZ3 := hid (blk_below HZ2.out (below_one w2 (.cells #[i64 (parT p).kind, i64 (parT p).num, .slice a1 n1 c1, .slice a2 n2 c2] 64)))
            have HRD3 := hid (HRD.out.under (below_one w2 (.cells #[i64 (parT p).kind, i64 (parT p).num, .slice a1 n1 c1, .slice a2 n2 c2] 64)))
            have HY3 : Hid ((w2.alloc (.cells #[i64 (parT p).kind, i64 (parT p).num, .slice a1 n1 c1, .slice a2 n2 c2] 64)).heap[w2.heap.size]? = some (.cells #[i64 (parT p).kind, i64 (parT p).num, .slice a1 n1 c1, .slice a2 n2 c2] 64)) := heap_last w2 _
            clear hb2 hrd HPA HI HZ y0 y1 HCr HSR HI2 HZ2 HRD
            go_upto_region 20 with fail
            obtain ⟨Y, hY⟩ : ∃ Y, Y = w2.heap.size := ⟨_, rfl⟩
            have HYs : Hid (V.heap.size ≤ Y) := by show _ ≤ _; rw [hY]; exact HVs.out
            rw [← hY] at HY3 ⊢
            clear hY HVs
            have HI := hid HI3.out
            have HZ := hid HZ3.out
            have HPT : Hid (parseF p = none ∨ parseF p = some (parT p)) := by
              cases hp : parseF p with
              | none => exact Or.inl rfl
              | some t => exact Or.inr (by rw [(parse_0 hp).1])
            have HPE : Hid (parE p = if (parseF p).isSome = true then 0 else 4) := rfl
            clear HI3 HZ3
            generalize w2.alloc (.cells #[i64 (parT p).kind, i64 (parT p).num, .slice a1 n1 c1, .slice a2 n2 c2] 64) = W at *
            generalize parT p = T at *
            generalize parE p = E at *
            cases hp : parseF p with
            | none =>
              obtain rfl : E = 4 := by rw [HPE.out, hp]; rfl
              clear HRD3 HY3
              have HRes : Hid (res = none) := by show _ = _; rw [HRes1.out]; exact by rw [rd3 a p c HNA.out, hp]
              obtain ⟨rc0, rc1, rc2, rc3, rc4, rc5, rc6, rc7, rc8, rc9, rc10, rf0, rf1, rf2, rf3, rf4, rf5, rf6, rf7, rf8, rf9, rf10⟩ := qfs HI.out.hR
              have HRX := hid HI.out.hR
              have HBX := hid HI.out.bel
              clear HI HZ
              go_wp2_with fail
              refine bodyPost_ret (v := .agg #[i64 0, str [], str [], nilS, i64 0, i64 0, nilS, nilS, i64 0, nilS, .bool false]) (results_one Tryz.results35 rfl (vload91 (setQ_at HRX.out _ _ _ _ _ _ _ _ _ _ _))) rfl ?_
              rw [HRes.out]
              exact one_no HRX.out HRe.out HBX.out
            | some t =>
              obtain rfl : E = 0 := by rw [HPE.out, hp]; rfl
              obtain rfl : t = T := by
                rcases HPT.out with h | h
                · rw [hp] at h; cases h
                · rw [hp] at h; cases h; rfl
              have HRes : Hid (res = some (.mk 3 n a [] [] t [])) := by show _ = _; rw [HRes1.out, rd3 a p c HNA.out, hp, HNc.out]
              clear hp HPE HPT HRes1
              have yc0 := blk_cell HY3.out 0
              have yc1 := blk_cell HY3.out 1
              have yc2 := blk_cell HY3.out 2
              have yc3 := blk_cell HY3.out 3
              have zc4 := blk_cell HZ.out 4
              have zc5 := blk_cell HZ.out 5
              have zc6 := blk_cell HZ.out 6
              have zc7 := blk_cell HZ.out 7
              have zf4 := blk_frozen HZ.out 4
              have zf5 := blk_frozen HZ.out 5
              have zf6 := blk_frozen HZ.out 6
              have zf7 := blk_frozen HZ.out 7
              have HZ2 := hid (zb7 (zb6 (zb5 (zb4 HZ.out (i64 t.kind)) (i64 t.num)) (.slice a1 n1 c1)) (.slice a2 n2 c2))
              have ht4 := ((((Touch.refl Z W).setCell (p := ⟨Z, 4, none⟩) rfl (i64 t.kind)).setCell (p := ⟨Z, 5, none⟩) rfl (i64 t.num)).setCell (p := ⟨Z, 6, none⟩) rfl (.slice a1 n1 c1)).setCell (p := ⟨Z, 7, none⟩) rfl (.slice a2 n2 c2)
              have HI2 := hid (HI.out.touch ht4 (by have := HZR.out; omega) (by have := HZR.out; have := HRq.out; omega))
              have HRD4 := hid (HRD3.out.move (S' := fun k => V.heap.size ≤ k) ht4.size fun k hk hlt => ⟨hk, ht4.block k hlt (by have := HRe3.out; omega)⟩)
              clear ht4
              go_upto_region 23 with fail
              clear yc0 yc1 yc2 yc3 zc4 zc5 zc6 zc7 zf4 zf5 zf6 zf7 HI HZ HY3 HRD3
              generalize (((W.setCell ⟨Z, 4, none⟩ (i64 t.kind)).setCell ⟨Z, 5, none⟩ (i64 t.num)).setCell ⟨Z, 6, none⟩ (.slice a1 n1 c1)).setCell ⟨Z, 7, none⟩ (.slice a2 n2 c2) = V2 at *
              have HNM := hid (qrnum_ok c V2 (by have := HXr.out c (by simp); unfold maxLen; omega))
              rw [numI_pos HNc.out] at HNM
              have y1 := HI2.out.hc 3 c rfl
              rw [show off + 3 = off + 2 + 1 by omega] at y1
              go_wp2_with fail
              refine HNM.out.mono ?_
              rintro e w3 ⟨rfl, hw3⟩
              replace hw3 := hw3.symm
              subst hw3
              clear HNM y1
              have zf8 := blk_frozen HZ2.out 8
              have zc8 := blk_cell HZ2.out 8
              have HZ5 := hid (zb8 HZ2.out (i64 (n : Int)))
              have ht5 := (Touch.refl Z V2).setCell (p := ⟨Z, 8, none⟩) rfl (i64 (n : Int))
              have HI5 := hid (HI2.out.touch ht5 (by have := HZR.out; omega) (by have := HZR.out; have := HRq.out; omega))
              have HRD5 := hid (HRD4.out.move (S' := fun k => V.heap.size ≤ k) ht5.size fun k hk hlt => ⟨hk, ht5.block k hlt (by have := HRe3.out; omega)⟩)
              clear ht5
              go_upto_region 38 with fail
              clear zf8 zc8 HI2 HZ2 HRD4
              generalize V2.setCell ⟨Z, 8, none⟩ (i64 (n : Int)) = V3 at *
              have HI := hid HI5.out
              have HZ := hid HZ5.out
              clear HI5 HZ5
              have HSD : Hid (Sd V3 (fun k => k ≠ R ∧ (S k ∨ w.heap.size ≤ k)) (.mk 3 n a [] [] t []) ⟨nilS, .slice a1 n1 c1, .slice a2 n2 c2, nilS⟩) := Sd.of ((HNN.out V3).mono fun k hk _ => HbS.out k hk) (HRD5.out.mono fun k hk _ => ⟨by have := HRe3.out; omega, Or.inr (by have := HRe3.out; have := HRq.out; omega)⟩) (Sds.nil _ _)
              obtain ⟨zc0, zc1, zc2, zc3, zc4, zc5, zc6, zc7, zc8, zc9, zf0, zf1, zf2, zf3, zf4, zf5, zf6, zf7, zf8, zf9⟩ := zfs HZ.out
              obtain ⟨rc0, rc1, rc2, rc3, rc4, rc5, rc6, rc7, rc8, rc9, rc10, rf0, rf1, rf2, rf3, rf4, rf5, rf6, rf7, rf8, rf9, rf10⟩ := qfs HI.out.hR
              have HBX := hid HI.out.bel
              have HRX := hid HI.out.hR
              clear HI HZ
              go_wp2_with fail
              refine bodyPost_ret (v := .agg #[i64 3, str a, str [], nilS, i64 t.kind, i64 t.num, .slice a1 n1 c1, .slice a2 n2 c2, i64 n, nilS, .bool true]) (results_one Tryz.results35 rfl (vload91 (setQ_at HRX.out _ _ _ _ _ _ _ _ _ _ _))) rfl ?_
              rw [HRes.out]
              exact one_yes HRe.out HBX.out HSD.out
        · have hmb : ((M : Int) != 2) = true := ibne2 (by omega)
          have HRes : Hid (res = none) := by show _ = _; rw [HRes1.out]; exact rd3_no a r (by rw [← HMe.out]; exact hm)
          obtain ⟨rc0, rc1, rc2, rc3, rc4, rc5, rc6, rc7, rc8, rc9, rc10, rf0, rf1, rf2, rf3, rf4, rf5, rf6, rf7, rf8, rf9, rf10⟩ := qfs HI.out.hR
          have HRX := hid HI.out.hR
          have HBX := hid HI.out.bel
          clear HI HZ
          go_wp2_with fail
          refine bodyPost_ret (v := .agg #[i64 0, str [], str [], nilS, i64 0, i64 0, nilS, nilS, i64 0, nilS, .bool false]) (results_one Tryz.results35 rfl (vload91 (setQ_at HRX.out _ _ _ _ _ _ _ _ _ _ _))) rfl ?_
          rw [HRes.out]
          exact one_no HRX.out HRe.out HBX.out
      · by_cases hm : M = 1
        · obtain ⟨c, rfl⟩ : ∃ c, r = [c] := List.length_eq_one_iff.1 (by rw [← HMe.out]; exact hm)
          subst hm
          have hra := HRA0.out (by simp)
          subst hra
          have y0 := HCr.out 0 c rfl
          rw [Nat.add_zero] at y0
          have HNM := hid (qrnum_ok c V (by have := HXr.out c (by simp); unfold maxLen; omega))
          cases hnc : numW c with
          | none =>
            rw [numI_neg hnc] at HNM
            go_wp2_with fail
            refine HNM.out.mono ?_
            rintro e w2 ⟨rfl, hw2⟩
            replace hw2 := hw2.symm
            subst hw2
            clear HNM
            go_simp
            have HRes : Hid (res = none) := by show _ = _; rw [HRes1.out]; exact by rw [rd4 a c HNA.out, hnc]
            obtain ⟨rc0, rc1, rc2, rc3, rc4, rc5, rc6, rc7, rc8, rc9, rc10, rf0, rf1, rf2, rf3, rf4, rf5, rf6, rf7, rf8, rf9, rf10⟩ := qfs HI.out.hR
            have HRX := hid HI.out.hR
            have HBX := hid HI.out.bel
            clear HI HZ
            go_wp2_with fail
            refine bodyPost_ret (v := .agg #[i64 0, str [], str [], nilS, i64 0, i64 0, nilS, nilS, i64 0, nilS, .bool false]) (results_one Tryz.results35 rfl (vload91 (setQ_at HRX.out _ _ _ _ _ _ _ _ _ _ _))) rfl ?_
            rw [HRes.out]
            exact one_no HRX.out HRe.out HBX.out
          | some n =>
            rw [numI_pos hnc] at HNM
            have HNc := hid hnc
            have hn9 := numW_le hnc
            have hn0 : (0 : Int) ≤ (n : Int) := by omega
            have HRes : Hid (res = some (.mk 4 n a [] [] ty0 [])) := by show _ = _; rw [HRes1.out, rd4 a c HNA.out, hnc]
            clear hnc
            go_wp2_with fail
            refine HNM.out.mono ?_
            rintro e w2 ⟨rfl, hw2⟩
            replace hw2 := hw2.symm
            subst hw2
            go_simp
            go_wp2_with fail
            refine HNM.out.mono ?_
            rintro e w2 ⟨rfl, hw2⟩
            replace hw2 := hw2.symm
            subst hw2
            clear HNM
            have zf8 := blk_frozen HZ.out 8
            have zc8 := blk_cell HZ.out 8
            have HZ2 := hid (zb8 HZ.out (i64 (n : Int)))
            have HI2 := hid (HI.out.touch ((Touch.refl Z V).setCell (p := ⟨Z, 8, none⟩) rfl (i64 (n : Int))) (by have := HZR.out; omega) (by have := HZR.out; have := HRq.out; omega))
            go_upto_region 38 with fail
            clear zf8 zc8 y0 HCr HSR HI HZ
            generalize V.setCell ⟨Z, 8, none⟩ (i64 (n : Int)) = V2 at *
            have HI := hid HI2.out
            have HZ := hid HZ2.out
            clear HI2 HZ2
            have HSD : Hid (Sd V2 (fun k => k ≠ R ∧ (S k ∨ w.heap.size ≤ k)) (.mk 4 n a [] [] ty0 []) ⟨nilS, nilS, nilS, nilS⟩) := Sd.of ((HNN.out V2).mono fun k hk _ => HbS.out k hk) (HTN.out V2) (Sds.nil _ _)
            obtain ⟨zc0, zc1, zc2, zc3, zc4, zc5, zc6, zc7, zc8, zc9, zf0, zf1, zf2, zf3, zf4, zf5, zf6, zf7, zf8, zf9⟩ := zfs HZ.out
            obtain ⟨rc0, rc1, rc2, rc3, rc4, rc5, rc6, rc7, rc8, rc9, rc10, rf0, rf1, rf2, rf3, rf4, rf5, rf6, rf7, rf8, rf9, rf10⟩ := qfs HI.out.hR
            have HBX := hid HI.out.bel
            have HRX := hid HI.out.hR
            clear HI HZ
            go_wp2_with fail
            refine bodyPost_ret (v := .agg #[i64 4, str a, str [], nilS, i64 0, i64 0, nilS, nilS, i64 n, nilS, .bool true]) (results_one Tryz.results35 rfl (vload91 (setQ_at HRX.out _ _ _ _ _ _ _ _ _ _ _))) rfl ?_
            rw [HRes.out]
            exact one_yes HRe.out HBX.out HSD.out
        · have hmb : ((M : Int) != 1) = true := ibne2 (by omega)
          have HRes : Hid (res = none) := by show _ = _; rw [HRes1.out]; exact rd4_no a r (by rw [← HMe.out]; exact hm)
          obtain ⟨rc0, rc1, rc2, rc3, rc4, rc5, rc6, rc7, rc8, rc9, rc10, rf0, rf1, rf2, rf3, rf4, rf5, rf6, rf7, rf8, rf9, rf10⟩ := qfs HI.out.hR
          have HRX := hid HI.out.hR
          have HBX := hid HI.out.bel
          clear HI HZ
          go_wp2_with fail
          refine bodyPost_ret (v := .agg #[i64 0, str [], str [], nilS, i64 0, i64 0, nilS, nilS, i64 0, nilS, .bool false]) (results_one Tryz.results35 rfl (vload91 (setQ_at HRX.out _ _ _ _ _ _ _ _ _ _ _))) rfl ?_
          rw [HRes.out]
          exact one_no HRX.out HRe.out HBX.out
      · -- 5
        by_cases hm : M = 0
        · obtain rfl : r = [] := List.length_eq_zero_iff.1 (by rw [← HMe.out]; exact hm)
          subst hm
          have HRes : Hid (res = some (.mk 5 0 a [] [] ty0 [])) := by show _ = _; rw [HRes1.out, rd259 5 (by omega) a [] HNA.out, if_pos rfl]; rfl
          have HSD : Hid (Sd V (fun k => k ≠ R ∧ (S k ∨ w.heap.size ≤ k)) (.mk 5 0 a [] [] ty0 []) ⟨nilS, nilS, nilS, nilS⟩) := Sd.of ((HNN.out V).mono fun k hk _ => HbS.out k hk) (HTN.out V) (Sds.nil _ _)
          obtain ⟨zc0, zc1, zc2, zc3, zc4, zc5, zc6, zc7, zc8, zc9, zf0, zf1, zf2, zf3, zf4, zf5, zf6, zf7, zf8, zf9⟩ := zfs HZ.out
          obtain ⟨rc0, rc1, rc2, rc3, rc4, rc5, rc6, rc7, rc8, rc9, rc10, rf0, rf1, rf2, rf3, rf4, rf5, rf6, rf7, rf8, rf9, rf10⟩ := qfs HI.out.hR
          have HBX := hid HI.out.bel
          have HRX := hid HI.out.hR
          clear HI HZ
          go_wp2_with fail
          refine bodyPost_ret (v := .agg #[i64 5, str a, str [], nilS, i64 0, i64 0, nilS, nilS, i64 0, nilS, .bool true]) (results_one Tryz.results35 rfl (vload91 (setQ_at HRX.out _ _ _ _ _ _ _ _ _ _ _))) rfl ?_
          rw [HRes.out]
          exact one_yes HRe.out HBX.out HSD.out
        · have hm1 : (0 : Int) < (M : Int) := by omega
          have HRes : Hid (res = none) := by show _ = _; rw [HRes1.out]; exact by rw [rd259 5 (by omega) a r HNA.out, if_neg (fun e => hm (by rw [HMe.out, e]; rfl))]
          obtain ⟨rc0, rc1, rc2, rc3, rc4, rc5, rc6, rc7, rc8, rc9, rc10, rf0, rf1, rf2, rf3, rf4, rf5, rf6, rf7, rf8, rf9, rf10⟩ := qfs HI.out.hR
          have HRX := hid HI.out.hR
          have HBX := hid HI.out.bel
          clear HI HZ
          go_wp2_with fail
          refine bodyPost_ret (v := .agg #[i64 0, str [], str [], nilS, i64 0, i64 0, nilS, nilS, i64 0, nilS, .bool false]) (results_one Tryz.results35 rfl (vload91 (setQ_at HRX.out _ _ _ _ _ _ _ _ _ _ _))) rfl ?_
          rw [HRes.out]
          exact one_no HRX.out HRe.out HBX.out
      · by_cases hm : M < 3
        · have hmb : (M : Int) < 3 := by omega
          have HRes : Hid (res = none) := by show _ = _; rw [HRes1.out]; exact rd6_no a r (Or.inl (by rw [← HMe.out]; exact hm))
          obtain ⟨rc0, rc1, rc2, rc3, rc4, rc5, rc6, rc7, rc8, rc9, rc10, rf0, rf1, rf2, rf3, rf4, rf5, rf6, rf7, rf8, rf9, rf10⟩ := qfs HI.out.hR
          have HRX := hid HI.out.hR
          have HBX := hid HI.out.bel
          clear HI HZ
          go_wp2_with fail
          refine bodyPost_ret (v := .agg #[i64 0, str [], str [], nilS, i64 0, i64 0, nilS, nilS, i64 0, nilS, .bool false]) (results_one Tryz.results35 rfl (vload91 (setQ_at HRX.out _ _ _ _ _ _ _ _ _ _ _))) rfl ?_
          rw [HRes.out]
          exact one_no HRX.out HRe.out HBX.out
        · have hmb : ¬ (M : Int) < 3 := by omega
          have HNM := hid (qrall_ok r V _ _ HSR.out (by rw [← HMe.out]; omega))
          go_wp2_with fail
          refine HNM.out.mono ?_
          rintro e w2 ⟨rfl, hw2⟩
          replace hw2 := hw2.symm
          subst hw2
          clear HNM
          cases hall : r.all nameB with
          | false =>
            go_simp
            have HRes : Hid (res = none) := by show _ = _; rw [HRes1.out]; exact rd6_no a r (Or.inr hall)
            obtain ⟨rc0, rc1, rc2, rc3, rc4, rc5, rc6, rc7, rc8, rc9, rc10, rf0, rf1, rf2, rf3, rf4, rf5, rf6, rf7, rf8, rf9, rf10⟩ := qfs HI.out.hR
            have HRX := hid HI.out.hR
            have HBX := hid HI.out.bel
            clear HI HZ
            go_wp2_with fail
            refine bodyPost_ret (v := .agg #[i64 0, str [], str [], nilS, i64 0, i64 0, nilS, nilS, i64 0, nilS, .bool false]) (results_one Tryz.results35 rfl (vload91 (setQ_at HRX.out _ _ _ _ _ _ _ _ _ _ _))) rfl ?_
            rw [HRes.out]
            exact one_no HRX.out HRe.out HBX.out
          | true =>
            obtain ⟨c, q, rfl⟩ : ∃ c q, r = c :: q := by
              cases r with
              | nil => have := HMe.out; simp at this; omega
              | cons c q => exact ⟨c, q, rfl⟩
            have HRes : Hid (res = some (.mk 6 0 a c q ty0 [])) := by show _ = _; rw [HRes1.out, rd6 a c q HNA.out (by rw [← HMe.out]; omega) hall]
            clear hall
            have hra := HRA0.out (by simp)
            subst hra
            have y0 := HCr.out 0 c rfl
            rw [Nat.add_zero] at y0
            go_simp
            have hc1 : ¬ cr = 1 := by omega
            have hM1 : M - 1 ≤ 100000 := by omega
            have zf2 := blk_frozen HZ.out 2
            have zc2 := blk_cell HZ.out 2
            have HZ2 := hid (zb2 HZ.out (str c))
            have ht2 := (Touch.refl Z V).setCell (p := ⟨Z, 2, none⟩) rfl (str c)
            have HI2 := hid (HI.out.touch ht2 (by have := HZR.out; omega) (by have := HZR.out; have := HRq.out; omega))
            clear ht2
            go_upto_region 32 with fail
            clear zf2 zc2 y0 HCr HSR HI HZ
            generalize V.setCell ⟨Z, 2, none⟩ (str c) = V2 at *
            have zf3 := blk_frozen HZ2.out 3
            have zc3 := blk_cell HZ2.out 3
            have HZ5 := hid (zb3 HZ2.out (.slice (some ⟨b, off + 2 + 1, none⟩) (M - 1) (cr - 1)))
            have ht3 := (Touch.refl Z V2).setCell (p := ⟨Z, 3, none⟩) rfl (.slice (some ⟨b, off + 2 + 1, none⟩) (M - 1) (cr - 1))
            have HI5 := hid (HI2.out.touch ht3 (by have := HZR.out; omega) (by have := HZR.out; have := HRq.out; omega))
            have HSR2 : Hid (Strs (V2.setCell ⟨Z, 3, none⟩ (.slice (some ⟨b, off + 2 + 1, none⟩) (M - 1) (cr - 1))) (fun k => k = b) (.slice (some ⟨b, off + 2 + 1, none⟩) (M - 1) (cr - 1)) q) := by
              have hq : q.length = M - 1 := by rw [HMe.out]; simp
              refine ⟨_, _, by rw [hq], by rw [hq]; unfold maxLen; omega, ⟨by rw [hq]; omega, fun x hx => by have := HXr.out x (by simp [hx]); unfold maxLen; omega⟩, Or.inr ⟨b, off + 2 + 1, rfl, rfl, Nat.lt_of_lt_of_le HI5.out.hb HI5.out.bel.size, fun i x hx => ?_⟩⟩
              have := HI5.out.hc (i + 3) x hx
              rw [show off + 2 + 1 + i = off + (i + 3) by omega]; exact this
            clear ht3
            go_upto_region 38 with fail
            clear zf3 zc3 HI2 HZ2
            generalize V2.setCell ⟨Z, 3, none⟩ (.slice (some ⟨b, off + 2 + 1, none⟩) (M - 1) (cr - 1)) = V3 at *
            have HI := hid HI5.out
            have HZ := hid HZ5.out
            clear HI5 HZ5
            have HSD : Hid (Sd V3 (fun k => k ≠ R ∧ (S k ∨ w.heap.size ≤ k)) (.mk 6 0 a c q ty0 []) ⟨.slice (some ⟨b, off + 2 + 1, none⟩) (M - 1) (cr - 1), nilS, nilS, nilS⟩) := Sd.of (HSR2.out.mono fun k hk _ => HbS.out k hk) (HTN.out V3) (Sds.nil _ _)
            obtain ⟨zc0, zc1, zc2, zc3, zc4, zc5, zc6, zc7, zc8, zc9, zf0, zf1, zf2, zf3, zf4, zf5, zf6, zf7, zf8, zf9⟩ := zfs HZ.out
            obtain ⟨rc0, rc1, rc2, rc3, rc4, rc5, rc6, rc7, rc8, rc9, rc10, rf0, rf1, rf2, rf3, rf4, rf5, rf6, rf7, rf8, rf9, rf10⟩ := qfs HI.out.hR
            have HBX := hid HI.out.bel
            have HRX := hid HI.out.hR
            clear HI HZ
            go_wp2_with fail
            refine bodyPost_ret (v := .agg #[i64 6, str a, str c, .slice (some ⟨b, off + 2 + 1, none⟩) (M - 1) (cr - 1), i64 0, i64 0, nilS, nilS, i64 0, nilS, .bool true]) (results_one Tryz.results35 rfl (vload91 (setQ_at HRX.out _ _ _ _ _ _ _ _ _ _ _))) rfl ?_
            rw [HRes.out]
            exact one_yes HRe.out HBX.out HSD.out
      · by_cases hm : M = 0
        · have hmb : (M : Int) < 1 := by omega
          have HRes : Hid (res = none) := by show _ = _; rw [HRes1.out]; exact rd78_no 7 (by omega) a r (Or.inl (by rw [← HMe.out]; omega))
          obtain ⟨rc0, rc1, rc2, rc3, rc4, rc5, rc6, rc7, rc8, rc9, rc10, rf0, rf1, rf2, rf3, rf4, rf5, rf6, rf7, rf8, rf9, rf10⟩ := qfs HI.out.hR
          have HRX := hid HI.out.hR
          have HBX := hid HI.out.bel
          clear HI HZ
          go_wp2_with fail
          refine bodyPost_ret (v := .agg #[i64 0, str [], str [], nilS, i64 0, i64 0, nilS, nilS, i64 0, nilS, .bool false]) (results_one Tryz.results35 rfl (vload91 (setQ_at HRX.out _ _ _ _ _ _ _ _ _ _ _))) rfl ?_
          rw [HRes.out]
          exact one_no HRX.out HRe.out HBX.out
        · have hmb : ¬ (M : Int) < 1 := by omega
          have HNM := hid (qrall_ok r V _ _ HSR.out (by rw [← HMe.out]; omega))
          go_wp2_with fail
          refine HNM.out.mono ?_
          rintro e w2 ⟨rfl, hw2⟩
          replace hw2 := hw2.symm
          subst hw2
          clear HNM
          cases hall : r.all nameB with
          | false =>
            go_simp
            have HRes : Hid (res = none) := by show _ = _; rw [HRes1.out]; exact rd78_no 7 (by omega) a r (Or.inr hall)
            obtain ⟨rc0, rc1, rc2, rc3, rc4, rc5, rc6, rc7, rc8, rc9, rc10, rf0, rf1, rf2, rf3, rf4, rf5, rf6, rf7, rf8, rf9, rf10⟩ := qfs HI.out.hR
            have HRX := hid HI.out.hR
            have HBX := hid HI.out.bel
            clear HI HZ
            go_wp2_with fail
            refine bodyPost_ret (v := .agg #[i64 0, str [], str [], nilS, i64 0, i64 0, nilS, nilS, i64 0, nilS, .bool false]) (results_one Tryz.results35 rfl (vload91 (setQ_at HRX.out _ _ _ _ _ _ _ _ _ _ _))) rfl ?_
            rw [HRes.out]
            exact one_no HRX.out HRe.out HBX.out
          | true =>
            have HRes : Hid (res = some (.mk 7 0 a [] r ty0 [])) := by show _ = _; rw [HRes1.out, rd78 7 (by omega) a r HNA.out (by rw [← HMe.out]; omega) hall]; rfl
            clear hall
            go_simp
            have zf3 := blk_frozen HZ.out 3
            have zc3 := blk_cell HZ.out 3
            have HZ2 := hid (zb3 HZ.out (.slice ra M cr))
            have ht3 := (Touch.refl Z V).setCell (p := ⟨Z, 3, none⟩) rfl (.slice ra M cr)
            have HI2 := hid (HI.out.touch ht3 (by have := HZR.out; omega) (by have := HZR.out; have := HRq.out; omega))
            have HSR2 : Hid (Strs (V.setCell ⟨Z, 3, none⟩ (.slice ra M cr)) (fun k => k = b) (.slice ra M cr) r) := HSR.out.move ht3.size fun k hk hlt => ⟨hk, ht3.block k hlt (by have := HbR.out; have := HZR.out; omega)⟩
            clear ht3
            go_upto_region 38 with fail
            clear zf3 zc3 HCr HSR HI HZ
            generalize V.setCell ⟨Z, 3, none⟩ (.slice ra M cr) = V2 at *
            have HI := hid HI2.out
            have HZ := hid HZ2.out
            clear HI2 HZ2
            have HSD : Hid (Sd V2 (fun k => k ≠ R ∧ (S k ∨ w.heap.size ≤ k)) (.mk 7 0 a [] r ty0 []) ⟨.slice ra M cr, nilS, nilS, nilS⟩) := Sd.of (HSR2.out.mono fun k hk _ => HbS.out k hk) (HTN.out V2) (Sds.nil _ _)
            obtain ⟨zc0, zc1, zc2, zc3, zc4, zc5, zc6, zc7, zc8, zc9, zf0, zf1, zf2, zf3, zf4, zf5, zf6, zf7, zf8, zf9⟩ := zfs HZ.out
            obtain ⟨rc0, rc1, rc2, rc3, rc4, rc5, rc6, rc7, rc8, rc9, rc10, rf0, rf1, rf2, rf3, rf4, rf5, rf6, rf7, rf8, rf9, rf10⟩ := qfs HI.out.hR
            have HBX := hid HI.out.bel
            have HRX := hid HI.out.hR
            clear HI HZ
            go_wp2_with fail
            refine bodyPost_ret (v := .agg #[i64 7, str a, str [], .slice ra M cr, i64 0, i64 0, nilS, nilS, i64 0, nilS, .bool true]) (results_one Tryz.results35 rfl (vload91 (setQ_at HRX.out _ _ _ _ _ _ _ _ _ _ _))) rfl ?_
            rw [HRes.out]
            exact one_yes HRe.out HBX.out HSD.out
      · by_cases hm : M = 0
        · have hmb : (M : Int) < 1 := by omega
          have HRes : Hid (res = none) := by show _ = _; rw [HRes1.out]; exact rd78_no 8 (by omega) a r (Or.inl (by rw [← HMe.out]; omega))
          obtain ⟨rc0, rc1, rc2, rc3, rc4, rc5, rc6, rc7, rc8, rc9, rc10, rf0, rf1, rf2, rf3, rf4, rf5, rf6, rf7, rf8, rf9, rf10⟩ := qfs HI.out.hR
          have HRX := hid HI.out.hR
          have HBX := hid HI.out.bel
          clear HI HZ
          go_wp2_with fail
          refine bodyPost_ret (v := .agg #[i64 0, str [], str [], nilS, i64 0, i64 0, nilS, nilS, i64 0, nilS, .bool false]) (results_one Tryz.results35 rfl (vload91 (setQ_at HRX.out _ _ _ _ _ _ _ _ _ _ _))) rfl ?_
          rw [HRes.out]
          exact one_no HRX.out HRe.out HBX.out
        · have hmb : ¬ (M : Int) < 1 := by omega
          have HNM := hid (qrall_ok r V _ _ HSR.out (by rw [← HMe.out]; omega))
          go_wp2_with fail
          refine HNM.out.mono ?_
          rintro e w2 ⟨rfl, hw2⟩
          replace hw2 := hw2.symm
          subst hw2
          clear HNM
          cases hall : r.all nameB with
          | false =>
            go_simp
            have HRes : Hid (res = none) := by show _ = _; rw [HRes1.out]; exact rd78_no 8 (by omega) a r (Or.inr hall)
            obtain ⟨rc0, rc1, rc2, rc3, rc4, rc5, rc6, rc7, rc8, rc9, rc10, rf0, rf1, rf2, rf3, rf4, rf5, rf6, rf7, rf8, rf9, rf10⟩ := qfs HI.out.hR
            have HRX := hid HI.out.hR
            have HBX := hid HI.out.bel
            clear HI HZ
            go_wp2_with fail
            refine bodyPost_ret (v := .agg #[i64 0, str [], str [], nilS, i64 0, i64 0, nilS, nilS, i64 0, nilS, .bool false]) (results_one Tryz.results35 rfl (vload91 (setQ_at HRX.out _ _ _ _ _ _ _ _ _ _ _))) rfl ?_
            rw [HRes.out]
            exact one_no HRX.out HRe.out HBX.out
          | true =>
            have HRes : Hid (res = some (.mk 8 0 a [] r ty0 [])) := by show _ = _; rw [HRes1.out, rd78 8 (by omega) a r HNA.out (by rw [← HMe.out]; omega) hall]; rfl
            clear hall
            go_simp
            have zf3 := blk_frozen HZ.out 3
            have zc3 := blk_cell HZ.out 3
            have HZ2 := hid (zb3 HZ.out (.slice ra M cr))
            have ht3 := (Touch.refl Z V).setCell (p := ⟨Z, 3, none⟩) rfl (.slice ra M cr)
            have HI2 := hid (HI.out.touch ht3 (by have := HZR.out; omega) (by have := HZR.out; have := HRq.out; omega))
            have HSR2 : Hid (Strs (V.setCell ⟨Z, 3, none⟩ (.slice ra M cr)) (fun k => k = b) (.slice ra M cr) r) := HSR.out.move ht3.size fun k hk hlt => ⟨hk, ht3.block k hlt (by have := HbR.out; have := HZR.out; omega)⟩
            clear ht3
            go_upto_region 38 with fail
            clear zf3 zc3 HCr HSR HI HZ
            generalize V.setCell ⟨Z, 3, none⟩ (.slice ra M cr) = V2 at *
            have HI := hid HI2.out
            have HZ := hid HZ2.out
            clear HI2 HZ2
            have HSD : Hid (Sd V2 (fun k => k ≠ R ∧ (S k ∨ w.heap.size ≤ k)) (.mk 8 0 a [] r ty0 []) ⟨.slice ra M cr, nilS, nilS, nilS⟩) := Sd.of (HSR2.out.mono fun k hk _ => HbS.out k hk) (HTN.out V2) (Sds.nil _ _)
            obtain ⟨zc0, zc1, zc2, zc3, zc4, zc5, zc6, zc7, zc8, zc9, zf0, zf1, zf2, zf3, zf4, zf5, zf6, zf7, zf8, zf9⟩ := zfs HZ.out
            obtain ⟨rc0, rc1, rc2, rc3, rc4, rc5, rc6, rc7, rc8, rc9, rc10, rf0, rf1, rf2, rf3, rf4, rf5, rf6, rf7, rf8, rf9, rf10⟩ := qfs HI.out.hR
            have HBX := hid HI.out.bel
            have HRX := hid HI.out.hR
            clear HI HZ
            go_wp2_with fail
            refine bodyPost_ret (v := .agg #[i64 8, str a, str [], .slice ra M cr, i64 0, i64 0, nilS, nilS, i64 0, nilS, .bool true]) (results_one Tryz.results35 rfl (vload91 (setQ_at HRX.out _ _ _ _ _ _ _ _ _ _ _))) rfl ?_
            rw [HRes.out]
            exact one_yes HRe.out HBX.out HSD.out
      · -- 9
        by_cases hm : M = 0
        · obtain rfl : r = [] := List.length_eq_zero_iff.1 (by rw [← HMe.out]; exact hm)
          subst hm
          have HRes : Hid (res = some (.mk 9 0 a [] [] ty0 [])) := by show _ = _; rw [HRes1.out, rd259 9 (by omega) a [] HNA.out, if_pos rfl]; rfl
          have HSD : Hid (Sd V (fun k => k ≠ R ∧ (S k ∨ w.heap.size ≤ k)) (.mk 9 0 a [] [] ty0 []) ⟨nilS, nilS, nilS, nilS⟩) := Sd.of ((HNN.out V).mono fun k hk _ => HbS.out k hk) (HTN.out V) (Sds.nil _ _)
          obtain ⟨zc0, zc1, zc2, zc3, zc4, zc5, zc6, zc7, zc8, zc9, zf0, zf1, zf2, zf3, zf4, zf5, zf6, zf7, zf8, zf9⟩ := zfs HZ.out
          obtain ⟨rc0, rc1, rc2, rc3, rc4, rc5, rc6, rc7, rc8, rc9, rc10, rf0, rf1, rf2, rf3, rf4, rf5, rf6, rf7, rf8, rf9, rf10⟩ := qfs HI.out.hR
          have HBX := hid HI.out.bel
          have HRX := hid HI.out.hR
          clear HI HZ
          go_wp2_with fail
          refine bodyPost_ret (v := .agg #[i64 9, str a, str [], nilS, i64 0, i64 0, nilS, nilS, i64 0, nilS, .bool true]) (results_one Tryz.results35 rfl (vload91 (setQ_at HRX.out _ _ _ _ _ _ _ _ _ _ _))) rfl ?_
          rw [HRes.out]
          exact one_yes HRe.out HBX.out HSD.out
        · have hm1 : (0 : Int) < (M : Int) := by omega
          have HRes : Hid (res = none) := by show _ = _; rw [HRes1.out]; exact by rw [rd259 9 (by omega) a r HNA.out, if_neg (fun e => hm (by rw [HMe.out, e]; rfl))]
          obtain ⟨rc0, rc1, rc2, rc3, rc4, rc5, rc6, rc7, rc8, rc9, rc10, rf0, rf1, rf2, rf3, rf4, rf5, rf6, rf7, rf8, rf9, rf10⟩ := qfs HI.out.hR
          have HRX := hid HI.out.hR
          have HBX := hid HI.out.bel
          clear HI HZ
          go_wp2_with fail
          refine bodyPost_ret (v := .agg #[i64 0, str [], str [], nilS, i64 0, i64 0, nilS, nilS, i64 0, nilS, .bool false]) (results_one Tryz.results35 rfl (vload91 (setQ_at HRX.out _ _ _ _ _ _ _ _ _ _ _))) rfl ?_
          rw [HRes.out]
          exact one_no HRX.out HRe.out HBX.out
end Go.Proofs.YtjppcfjjpkniaaaGreatDoor
namespace Go.Proofs.YtjppcfjjpkniaaaGreatDoor
set_option maxRecDepth 100000

def qfl (cur : List Bs) (x : Bs) : List Bs := if x = [] then cur else cur ++ [x]
/-- The rows that one run over a text makes: the last row so far, the word so far, whether a note has begun. -/
def qscan : Bs → List Bs → Bs → Bool → List (List Bs)
  | [], cur, x, _ => [qfl cur x]
  | c :: t, cur, x, nt => if c = 10 then qfl cur x :: qscan t [] [] false
    else if c = 32 ∨ c = 59 ∨ nt = true then qscan t (qfl cur x) [] (nt || decide (c = 59))
    else qscan t cur (x ++ [c]) nt
/-- The words of the rest of a line behind a word that has begun. -/
def qline (l : Bs) (cur : List Bs) (x : Bs) (nt : Bool) : List Bs := if nt = true then qfl cur x else cur ++ wordsF (trimL (x ++ semi l))
theorem qtrim_id {x : Bs} (h : 32 ∉ x) (hne : x ≠ []) (r : Bs) : trimL (x ++ r) = x ++ r := by
  cases x with
  | nil => exact absurd rfl hne
  | cons a x =>
    have ha : a ≠ 32 := fun e => h (by simp [e])
    show trimL (a :: (x ++ r)) = a :: (x ++ r)
    unfold trimL
    rw [List.dropWhile_cons_of_neg (by simpa using ha)]
theorem qtake {x : Bs} (h : 32 ∉ x) (r : Bs) : (x ++ r).takeWhile (fun b => b != 32) = x ++ r.takeWhile (fun b => b != 32) := by
  induction x with
  | nil => rfl
  | cons a x ih =>
    have ha : a ≠ 32 := fun e => h (by simp [e])
    show (a :: (x ++ r)).takeWhile _ = _
    rw [List.takeWhile_cons_of_pos (by simpa using ha), ih (fun e => h (by simp [e]))]
    rfl
theorem qdrop {x : Bs} (h : 32 ∉ x) (r : Bs) : (x ++ r).dropWhile (fun b => b != 32) = r.dropWhile (fun b => b != 32) := by
  induction x with
  | nil => rfl
  | cons a x ih =>
    have ha : a ≠ 32 := fun e => h (by simp [e])
    show (a :: (x ++ r)).dropWhile _ = _
    rw [List.dropWhile_cons_of_pos (by simpa using ha), ih (fun e => h (by simp [e]))]
theorem qwords_sp {x : Bs} (h : 32 ∉ x) (r : Bs) : wordsF (trimL (x ++ 32 :: r)) = qfl [] x ++ wordsF (trimL r) := by
  by_cases hx : x = []
  · subst hx
    show wordsF (trimL (32 :: r)) = _
    have : trimL (32 :: r) = trimL r := by unfold trimL; rw [List.dropWhile_cons_of_pos (by simp)]
    rw [this]; simp [qfl]
  · rw [qtrim_id h hx, wordsF_cons (by simp)]
    have h1 : wd (x ++ 32 :: r) = x := by unfold wd; rw [qtake h]; simp
    have h2 : aft (x ++ 32 :: r) = trimL r := by unfold aft; rw [qdrop h]; simp
    rw [h1, h2]; simp [qfl, hx]
theorem qwords_end {x : Bs} (h : 32 ∉ x) : wordsF (trimL x) = qfl [] x := by
  by_cases hx : x = []
  · subst hx; rfl
  · have h0 := qtrim_id h hx []
    rw [List.append_nil] at h0
    rw [h0, wordsF_cons hx]
    have h1 : wd x = x := by have := qtake h []; simp only [List.append_nil, List.takeWhile_nil] at this; exact this
    have h2 : aft x = [] := by unfold aft; have := qdrop h []; simp only [List.append_nil, List.dropWhile_nil] at this; rw [this]; rfl
    rw [h1, h2]; simp [qfl, hx]; rfl
theorem qfl_app (cur : List Bs) (x : Bs) : qfl cur x = cur ++ qfl [] x := by unfold qfl; split <;> simp
theorem qfl_nil (cur : List Bs) : qfl cur [] = cur := by simp [qfl]
theorem qline_row (l : Bs) : qline l [] [] false = rowF l := by simp [qline, rowF, lineT]
theorem qscan_eq : ∀ (t : Bs) (cur : List Bs) (x : Bs) (nt : Bool), 32 ∉ x → (nt = true → x = []) → qscan t cur x nt = match lns t with | l :: rest => qline l cur x nt :: rest.map rowF | [] => []
  | [], cur, x, nt, h, hn => by
    show [qfl cur x] = [qline [] cur x nt]
    unfold qline
    split
    · rfl
    · rw [show semi [] = [] from rfl, List.append_nil, qwords_end h, ← qfl_app]
  | c :: t, cur, x, nt, h, hn => by
    unfold qscan lns
    by_cases h10 : c = 10
    · rw [if_pos h10, if_pos h10, qscan_eq t [] [] false (by simp) (fun _ => rfl)]
      have h0 : qfl cur x = qline [] cur x nt := by
        unfold qline
        split
        · rfl
        · rw [show semi [] = [] from rfl, List.append_nil, qwords_end h, ← qfl_app]
      cases hl : lns t with
      | nil => exact absurd hl (lns_ne t)
      | cons l rest => simp only [List.map_cons]; rw [qline_row, ← h0]
    · rw [if_neg h10, if_neg h10]
      cases hl : lns t with
      | nil => exact absurd hl (lns_ne t)
      | cons l rest =>
        simp only
        by_cases hs : c = 32 ∨ c = 59 ∨ nt = true
        · rw [if_pos hs, qscan_eq t (qfl cur x) [] _ (by simp) (fun _ => rfl), hl]
          simp only
          congr 1
          cases nt with
          | true => simp [qline, qfl_nil]
          | false =>
            simp only [Bool.false_eq_true, or_false] at hs
            by_cases h59 : c = 59
            · subst h59
              have : semi (59 :: l) = [] := by unfold semi; rw [List.takeWhile_cons_of_neg (by simp)]
              simp only [qline, this, List.append_nil, qwords_end h, Bool.false_or, decide_true, if_true, qfl_nil]
              rw [if_neg (by simp), ← qfl_app]
            · obtain rfl : c = 32 := by rcases hs with h | h; exact h; exact absurd h h59
              have : semi (32 :: l) = 32 :: semi l := by unfold semi; rw [List.takeWhile_cons_of_pos (by simp)]
              simp only [qline, this, qwords_sp h]
              rw [if_neg (by simp), if_neg (by simp), qfl_app cur x]
              simp
        · have hs' := hs
          simp only [not_or, Bool.not_eq_true] at hs
          obtain ⟨h32, h59, rfl⟩ := hs
          rw [if_neg hs', qscan_eq t cur (x ++ [c]) false (by simp [h, Ne.symm h32]) (fun e => by cases e), hl]
          simp only
          congr 1
          have : semi (c :: l) = c :: semi l := by unfold semi; rw [List.takeWhile_cons_of_pos (by simpa using h59)]
          simp [qline, this]
theorem qrows_eq (t : Bs) : qscan t [] [] false = (lns t).map rowF := by
  rw [qscan_eq t [] [] false (by simp) (fun _ => rfl)]
  cases hl : lns t with
  | nil => exact absurd hl (lns_ne t)
  | cons l rest => simp only [List.map_cons]; rw [qline_row]
end Go.Proofs.YtjppcfjjpkniaaaGreatDoor
namespace Go.Proofs.YtjppcfjjpkniaaaGreatDoor
open Go.ChangeShapes Go.WideShapes Go.ChangeAt Go.RowKit Go.Deep
set_option maxRecDepth 100000

theorem under59q : Tryz.prog.underlying 59 = some (.slice 89) := Tryz.underlying59
theorem info89q : (Tryz.prog.info? 89).map (fun i => (i.zero, i.size, i.bytes)) = some (some (.agg #[nilS]), 1, 24) := by kernel_rfl
/-- Rows of rows of words: D's are done, the last one (cur) grows in a block of its own. -/
structure RwI (w X : World) (ov : Value) (D : List (List Bs × Value)) (cur : List Bs) (cv : Value) : Prop where
  own : X.ownsRow w.heap.size 89 1 ov (D.length + 1) (D.map (·.2) ++ [cv])
  done : ∀ d ∈ D, Strs X (fun k => (w.heap.size ≤ k ∧ some k ≠ ov.ownBlock) ∧ some k ≠ cv.ownBlock) d.2 d.1
  lst : X.ownsRow w.heap.size 9 1 cv cur.length (cur.map str)
  ne : ∀ k, cv.ownBlock = some k → ov.ownBlock ≠ some k
  len : ∀ x ∈ cur, x.length ≤ maxLen
  bel : Below w.heap.size w X
theorem rw_start (w : World) : RwI w (w.alloc (.cells #[nilS] 89)) (.slice (some ⟨w.heap.size, 0, none⟩) 1 1) [] [] nilS :=
  ⟨World.ownsRow_lit w #[nilS] 1 (Nat.le_refl _) (by unfold maxLen; omega) rfl, fun d hd => (by cases hd), ⟨rfl, Or.inl ⟨rfl, rfl⟩⟩, fun k hk => (by cases hk), fun x hx => (by cases hx), below_one w _⟩
/-- A word more in the last row: append, then the store into the rows' last cell. -/
theorem RwI.word {w X : World} {ov cv : Value} {D : List (List Bs × Value)} {cur : List Bs} (h : RwI w X ov D cur cv) (x : Bs) (hx : x.length ≤ maxLen) (hn : cur.length ≤ 100000) :
    ∃ g oc, ov = .slice (some ⟨g, 0, none⟩) (D.length + 1) oc ∧ w.heap.size ≤ g ∧ X.cell? ⟨g, D.length, none⟩ = some cv ∧ ∃ ao cap w', (Builtin.append_ #[46, 46] 46 #[cv, .slice (some ⟨X.heap.size, 0, none⟩) 1 1]).run Tryz.prog (X.alloc (.cells #[str x] 9)) = .ok (.slice ao (cur.length + 1) cap) w' ∧ w'.cell? ⟨g, D.length, none⟩ = some cv ∧ w'.frozen? ⟨g, D.length, none⟩ = false ∧
      RwI w (w'.setCell ⟨g, D.length, none⟩ (.slice ao (cur.length + 1) cap)) ov D (cur ++ [x]) (.slice ao (cur.length + 1) cap) := by
  obtain ⟨ao, cap, w', h1, h2, h3, h4, h5⟩ := app_far (te := 9) under22 info9 rfl (by omega) (by omega) h.lst [str x] rfl (fun u hu => by rw [List.mem_singleton.1 hu]; rfl) hn h.bel.size
  have hlen : (D.map (·.2) ++ [cv]).length = D.length + 1 := by simp
  rcases h.own.2 with ⟨_, h0⟩ | ⟨g, oc, cu, hv, hb, hg, hc1, hc2, hc3, hc4⟩
  · omega
  subst hv
  have hgl : g < X.heap.size := blk_lt hg
  have hgc : some g ≠ cv.ownBlock := fun e => h.ne g e.symm rfl
  have hown' : w'.ownsRow w.heap.size 89 1 (.slice (some ⟨g, 0, none⟩) (D.length + 1) oc) (D.length + 1) (D.map (·.2) ++ [cv]) := own_keep1 h.own fun k hk => by
    cases hk; exact h4 g hgl hgc
  have hcell : X.cell? ⟨g, D.length, none⟩ = some cv := by rw [h.own.cellAt D.length (by simp)]; simp
  have hcell' : w'.cell? ⟨g, D.length, none⟩ = some cv := by rw [hown'.cellAt D.length (by simp)]; simp
  have hne' : ∀ k, k < X.heap.size → some k ≠ cv.ownBlock → some k ≠ (Value.slice ao (cur.length + 1) cap).ownBlock := fun k hk hkc => by
    rcases h5 with h5 | h5
    · rw [h5]; exact hkc
    · rw [h5]; intro e; cases e; omega
  refine ⟨g, oc, rfl, hb, hcell, ao, cap, w', h1, hcell', hown'.frozenAt D.length, ⟨?_, fun d hd => ?_, ?_, fun k hk e => ?_, fun y hy => ?_, (h.bel.trans h3.below).setCell hb _⟩⟩
  · have := (hown'.stored D.length (.slice ao (cur.length + 1) cap)).1
    rw [show (D.map (·.2) ++ [cv]).set D.length (.slice ao (cur.length + 1) cap) = D.map (·.2) ++ [.slice ao (cur.length + 1) cap] by rw [List.set_append_right _ _ (by simp)]; simp] at this
    exact this
  · refine (h.done d hd).move (Nat.le_trans h3.size (by simp)) fun k hk hlt => ⟨⟨hk.1, hne' k hlt hk.2⟩, ?_⟩
    rw [Below.heap_setCell _ _ _ _ (fun e => hk.1.2 (by rw [e]; rfl))]
    exact h4 k hlt hk.2
  · have h2' : w'.ownsRow w.heap.size 9 1 (.slice ao (cur.length + 1) cap) (cur ++ [x]).length ((cur ++ [x]).map str) := by simpa using h2
    refine own_keep1 h2' fun k hk => Below.heap_setCell _ _ _ _ fun e => ?_
    exact hne' g hgl hgc (by rw [hk]; exact congrArg some e.symm)
  · cases e
    exact hne' g hgl hgc hk.symm
  · rcases List.mem_append.1 hy with hy | hy
    · exact h.len y hy
    · rw [List.mem_singleton.1 hy]; exact hx
/-- A row more. -/
theorem RwI.row {w X : World} {ov cv : Value} {D : List (List Bs × Value)} {cur : List Bs} (h : RwI w X ov D cur cv) (hn : D.length + 1 ≤ 100000) :
    ∃ ao cap w', (Builtin.append_ #[59, 59] 59 #[ov, .slice (some ⟨X.heap.size, 0, none⟩) 1 1]).run Tryz.prog (X.alloc (.cells #[nilS] 89)) = .ok (.slice ao (D.length + 1 + 1) cap) w' ∧ RwI w w' (.slice ao (D.length + 1 + 1) cap) (D ++ [(cur, cv)]) [] nilS := by
  obtain ⟨ao, cap, w', h1, h2, h3, h4, h5⟩ := app_far (te := 89) under59q info89q rfl (by omega) (by omega) h.own [nilS] rfl (fun u hu => by rw [List.mem_singleton.1 hu]; rfl) hn h.bel.size
  have hne' : ∀ k, k < X.heap.size → some k ≠ ov.ownBlock → some k ≠ (Value.slice ao (D.length + 1 + 1) cap).ownBlock := fun k hk hkc => by
    rcases h5 with h5 | h5
    · rw [h5]; exact hkc
    · rw [h5]; intro e; cases e; omega
  refine ⟨ao, cap, w', h1, ⟨by simpa using h2, fun d hd => ?_, ⟨rfl, Or.inl ⟨rfl, rfl⟩⟩, fun k hk => (by cases hk), fun x hx => (by cases hx), h.bel.trans h3.below⟩⟩
  rcases List.mem_append.1 hd with hd | hd
  · exact (h.done d hd).move h3.size fun k hk hlt => ⟨⟨⟨hk.1.1, hne' k hlt hk.1.2⟩, fun e => (by cases e)⟩, h4 k hlt hk.1.2⟩
  · rw [List.mem_singleton.1 hd]
    have hs : Strs X (fun k => w.heap.size ≤ k ∧ cv.ownBlock = some k) cv cur := own_strs h.lst h.len fun b hb => ⟨(h.lst.lt b hb).1, hb⟩
    exact hs.move h3.size fun k hk hlt => ⟨⟨⟨hk.1, hne' k hlt fun e => h.ne k hk.2 e.symm⟩, fun e => (by cases e)⟩, h4 k hlt fun e => h.ne k hk.2 e.symm⟩
/-- Rows of words that read as l. -/
def Rws (w : World) (S : Nat → Prop) (v : Value) (l : List (List Bs)) : Prop :=
  ∃ b off cap, v = .slice (some ⟨b, off, none⟩) l.length cap ∧ l.length ≤ cap ∧ S b ∧ b < w.heap.size ∧ ∀ i ws, l[i]? = some ws → ∃ u, w.cell? ⟨b, off + i, none⟩ = some u ∧ Strs w S u ws
theorem RwI.rws {w X : World} {ov cv : Value} {D : List (List Bs × Value)} {cur : List Bs} (h : RwI w X ov D cur cv) : Rws X (fun k => w.heap.size ≤ k) ov (D.map (·.1) ++ [cur]) := by
  rcases h.own.2 with ⟨_, h0⟩ | ⟨g, oc, cu, hv, hb, hg, hc1, hc2, hc3, hc4⟩
  · omega
  subst hv
  refine ⟨g, 0, oc, by simp, by simp; omega, hb, blk_lt hg, fun i ws hi => ?_⟩
  rw [Nat.zero_add]
  by_cases hiD : i < D.length
  · have hd := List.getElem?_eq_getElem hiD
    rw [List.getElem?_append_left (by simpa using hiD), List.getElem?_map, hd] at hi
    cases hi
    refine ⟨D[i].2, ?_, (h.done D[i] (List.getElem_mem hiD)).mono fun k hk _ => hk.1.1⟩
    rw [h.own.cellAt i (by omega), List.getElem?_append_left (by simpa using hiD), List.getElem?_map, hd]; rfl
  · have hil := (List.getElem?_eq_some_iff.1 hi).1
    obtain rfl : i = D.length := by simp at hil; omega
    rw [List.getElem?_append_right (by simp)] at hi
    simp at hi
    subst hi
    refine ⟨cv, ?_, own_strs h.lst h.len fun b hb => (h.lst.lt b hb).1⟩
    rw [h.own.cellAt D.length (by omega), List.getElem?_append_right (by simp)]; simp
theorem Rws.under {w w' : World} {S : Nat → Prop} {v : Value} {l : List (List Bs)} (h : Rws w S v l) (hb : Below w.heap.size w w') : Rws w' S v l := by
  obtain ⟨b, off, cap, h1, h2, h3, h4, h5⟩ := h
  exact ⟨b, off, cap, h1, h2, h3, Nat.lt_of_lt_of_le h4 hb.size, fun i ws hi => by
    obtain ⟨u, hu, hs⟩ := h5 i ws hi
    exact ⟨u, (hb.cell h4).trans hu, hs.below hb⟩⟩
end Go.Proofs.YtjppcfjjpkniaaaGreatDoor
