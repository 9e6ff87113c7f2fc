/- The document's Open; no statement is proved in this text. -/
import Derived.Test.YtojhmiggocommaaDcl
namespace Go.Proofs.Ytojhmiggocommaa
open Go.ChangeShapes Go.WideShapes Go.ChangeAt Go.RowKit Go.Deep
attribute [local go_sem ↓] Go.wp_at_zero Go.wp_at_succ

theorem free_spec (S : St) : free S ≤ 3 ∧ (∀ j, j < free S → ∃ D, S j = some D) ∧ (free S < 3 → S (free S) = none) := by
  unfold free
  cases h0 : S 0 with
  | none => exact ⟨by simp, fun j hj => absurd hj (by simp), fun _ => by simpa using h0⟩
  | some D0 =>
    cases h1 : S 1 with
    | none =>
      simp only [reduceCtorEq, if_false, if_true]
      refine ⟨by omega, fun j hj => ?_, fun _ => h1⟩
      obtain rfl : j = 0 := by omega
      exact ⟨D0, h0⟩
    | some D1 =>
      cases h2 : S 2 with
      | none =>
        simp only [reduceCtorEq, if_false, if_true]
        refine ⟨by omega, fun j hj => ?_, fun _ => h2⟩
        obtain rfl | rfl : j = 0 ∨ j = 1 := by omega
        · exact ⟨D0, h0⟩
        · exact ⟨D1, h1⟩
      | some D2 =>
        simp only [reduceCtorEq, if_false]
        refine ⟨by omega, fun j hj => ?_, fun h => absurd h (by omega)⟩
        obtain rfl | rfl | rfl : j = 0 ∨ j = 1 ∨ j = 2 := by omega
        · exact ⟨D0, h0⟩
        · exact ⟨D1, h1⟩
        · exact ⟨D2, h2⟩
set_option maxRecDepth 100000 in
set_option maxHeartbeats 12800000 in
theorem ropen_full {w : World} {base r : Nat} {S : St} (h : Rb w base r (lst S)) (n : Nat) (hn : n = 3) (hf1 : ∀ j, j < n → ∃ D, S j = some D) : Calls Try.prog 21 #[pq r] w fun e w' => e = .returned (.tuple #[i64 0, i64 5]) ∧ Below w.heap.size w w' := by
  have HF1 := hid hf1
  have HF2 : Hid (posF (lst S) (n : Int) 0 = -1) := by show _ = _; rw [hn]; exact pos_three S
  obtain ⟨L, hL⟩ : ∃ L, L = lst S := ⟨_, rfl⟩
  have HR : Hid (Rb w base r L) := by rw [hL]; exact h
  have HL := hid hL
  have hn3 : 2 < (n : Int) := by omega
  have hn4 : n ≤ 3 := by omega
  clear h hf1 hL hn
  go_enter Try.func21, Try.ntmps21
  go_wp2_with fail
  go_loopw [4] (fun u wr => ∃ k : Nat, k ≤ n ∧ u = i64 k ∧ Hid (Below w.heap.size w wr)) (fun u _ => n - (intOf u).toNat)
  case atStart => exact ⟨0, by omega, rfl, Below.refl _ _⟩
  case round =>
    obtain ⟨k, hk, rfl, HB⟩ := hrel
    by_cases hlt : k < n
    · obtain ⟨D, hD⟩ := HF1.out k hlt
      obtain ⟨x, hx, _⟩ := pos_some S k D (by omega) hD
      have HA := hid (rat_ok (HR.out.below HB.out) (by have := lst_len S; rw [HL.out]; omega) (k : Int))
      rw [HL.out, hx] at HA
      clear hD hx
      go_wp2_with fail
      refine HA.out.mono ?_
      rintro e w2 ⟨rfl, hb2⟩
      have HB2 : Hid (Below w.heap.size w w2) := HB.out.trans (hb2.mono HB.out.size)
      clear hb2
      go_wp2_with fail
      exact ⟨⟨k + 1, by omega, by go_num, HB2⟩, by simp [intOf]; omega⟩
    · have hkn : n = k := by omega
      subst hkn
      have HA := hid (rat_ok (HR.out.below HB.out) (by have := lst_len S; rw [HL.out]; omega) (n : Int))
      rw [HL.out, HF2.out] at HA
      clear hlt
      go_wp2_with fail
      refine HA.out.mono ?_
      rintro e w2 ⟨rfl, hb2⟩
      have HB2 : Hid (Below w.heap.size w w2) := HB.out.trans (hb2.mono HB.out.size)
      clear hb2
      go_wp2_with fail
      go_ret2
      exact ⟨rfl, HB2.out⟩
set_option maxRecDepth 100000 in
set_option maxHeartbeats 12800000 in
theorem ropen_in {w : World} {base r : Nat} {S : St} (h : Rb w base r (lst S)) (n : Nat) (hn : n < 3) (hf1 : ∀ j, j < n → ∃ D, S j = some D) (hf2 : S n = none) : Calls Try.prog 21 #[pq r] w fun e w' => e = .returned (.tuple #[i64 n, i64 0]) ∧ Rb w' base r (lst (upd S n (some []))) ∧ Fr base [30, 47] w w' := by
  have HF1 := hid hf1
  have HF2 : Hid (posF (lst S) (n : Int) 0 = -1) := pos_none S n hn hf2
  rw [← lst_open S n hn hf2]
  obtain ⟨ao, cap, hbk, hown, hcap, _⟩ := h.row
  obtain ⟨L, hL⟩ : ∃ L, L = lst S := ⟨_, rfl⟩
  rw [← hL] at hbk hown hcap
  have HR : Hid (Rb w base r L) := by rw [hL]; exact h
  have HL := hid hL
  have b0 : w.cell? ⟨r, 0, none⟩ = some (.slice ao L.length cap) := blk_cell hbk 0
  have HK : Hid (w.heap[r]? = some (.cells #[.slice ao L.length cap] 30)) := hbk
  have hl : L.length ≤ 3 := by rw [hL]; exact lst_len S
  obtain ⟨N, hN⟩ : ∃ N, N = L.length := ⟨_, rfl⟩
  have HN : Hid (N = L.length) := hN
  rw [← hN] at b0 hl hcap HK
  have hcI : (N : Int) ≤ cap := by omega
  have hNI : (N : Int) ≤ 3 := by omega
  rw [← hL]
  have hn2 : ¬ 2 < (n : Int) := by omega
  clear h hf1 hf2 hL hbk hown hN
  go_enter Try.func21, Try.ntmps21
  go_wp2_with fail
  go_loopw [4] (fun u wr => ∃ k : Nat, k ≤ n ∧ u = i64 k ∧ Hid (Below w.heap.size w wr)) (fun u _ => n - (intOf u).toNat)
  case atStart => exact ⟨0, by omega, rfl, Below.refl _ _⟩
  case round =>
    obtain ⟨k, hk, rfl, HB⟩ := hrel
    by_cases hlt : k < n
    · obtain ⟨D, hD⟩ := HF1.out k hlt
      obtain ⟨x, hx, _⟩ := pos_some S k D (by omega) hD
      have HA := hid (rat_ok (HR.out.below HB.out) (by have := lst_len S; rw [HL.out]; omega) (k : Int))
      rw [HL.out, hx] at HA
      clear hD hx
      go_wp2_with fail
      refine HA.out.mono ?_
      rintro e w2 ⟨rfl, hb2⟩
      have HB2 : Hid (Below w.heap.size w w2) := HB.out.trans (hb2.mono HB.out.size)
      clear hb2
      go_wp2_with fail
      exact ⟨⟨k + 1, by omega, by go_num, HB2⟩, by simp [intOf]; omega⟩
    · have hkn : n = k := by omega
      subst hkn
      have HA := hid (rat_ok (HR.out.below HB.out) (by have := lst_len S; rw [HL.out]; omega) (n : Int))
      rw [HL.out, HF2.out] at HA
      clear hlt
      go_wp2_with fail
      refine HA.out.mono ?_
      rintro e w2 ⟨rfl, hb2⟩
      have HB2 : Hid (Below w.heap.size w w2) := HB.out.trans (hb2.mono HB.out.size)
      clear hb2
      have b1 : w2.cell? ⟨r, 0, none⟩ = some (.slice ao N cap) := blk_cell (blk_below HK.out HB2.out) 0
      clear b0 hk HA HB
      have HB0 := HB2
      go_wp2_with fail
      clear b1
      go_loopw [5, 23] (fun c ix wr => ∃ (k m : Nat) (ao2 : Option Addr) (cap2 : Nat), k ≤ N ∧ m ≤ 0 + k ∧ ix = i64 k ∧ c = .slice ao2 m cap2 ∧ Hid (wr.ownsRow w.heap.size 47 2 (.slice ao2 m cap2) m (icn (([] : List In) ++ (L.take k).filter (fun p : In => decide (p.1 < (n : Int))))) ∧ m = (([] : List In) ++ (L.take k).filter (fun p : In => decide (p.1 < (n : Int)))).length) ∧ Hid (Below w.heap.size w wr)) (fun _ ix _ => N - (intOf ix).toNat)
      case atStart => exact ⟨0, 0, none, 0, by omega, by omega, rfl, rfl, ⟨World.ownsRow_nil _ _ 47 2, rfl⟩, HB0⟩
      case round =>
        obtain ⟨k, m, ao2, cap2, hk, hm, rfl, rfl, HO, HB⟩ := hrel
        by_cases hlt : k < N
        · have hlt2 : k < L.length := by rw [← HN.out]; exact hlt
          obtain ⟨p, hp⟩ : ∃ p, L[k]? = some p := ⟨_, List.getElem?_eq_getElem hlt2⟩
          obtain ⟨ao', cap', hbk', hown', hcap', hrow⟩ := (HR.out.below HB.out).row
          have hs := (blk_below HK.out HB.out).symm.trans hbk'
          simp only [Option.some.injEq, Obj.cells.injEq, Array.mk.injEq, List.cons.injEq, Value.slice.injEq, and_true] at hs
          obtain ⟨rfl, hNN, rfl⟩ := hs
          clear hNN
          obtain ⟨g, rfl, hbg, hgl, _, c0, c1, _⟩ := hrow k p hp
          have hbA : Below w.heap.size w (wr.alloc (inO p)) := HB.out.alloc HB.out.size _
          have hoA : (wr.alloc (inO p)).ownsRow w.heap.size 47 2 (.slice ao2 m cap2) m (icn (([] : List In) ++ (L.take k).filter (fun p : In => decide (p.1 < (n : Int))))) := HO.out.1.alloc _
          have HBA := hid hbA
          have HOA := hid hoA
          have HSu := hid (filt_succ hp (fun p : In => decide (p.1 < (n : Int))))
          have HM := hid HO.out.2
          have hmN : m ≤ 20 := by omega
          clear hrow hp hbk' hown'
          by_cases hst : p.1 < (n : Int)
          · obtain ⟨ao3, cap3, w3, hrun, hown3, hfr3, _, _⟩ := app_far (te := 47) under28 info47x rfl (by omega) (by omega) hoA (inC p) rfl (inl_one p) (by omega) hbA.size
            have HRun : Hid ((Builtin.append_ #[28, 28] 28 #[.slice ao2 m cap2, .slice (some ⟨wr.heap.size + 1, 0, none⟩) 1 1]).run Try.prog ((wr.alloc (inO p)).alloc (.cells #[i64 p.1, str p.2] 47)) = .ok (.slice ao3 (m + 1) cap3) w3) := hid (by
              have := hrun
              rw [show (wr.alloc (inO p)).heap.size = wr.heap.size + 1 by simp] at this
              exact this)
            have HB3 : Hid (Below w.heap.size w w3) := hbA.trans hfr3.below
            have hF : (fun p : In => decide (p.1 < (n : Int))) p = true := by simpa using hst
            have HE : Hid (w3.ownsRow w.heap.size 47 2 (.slice ao3 (m + 1) cap3) (m + 1) (icn (([] : List In) ++ (L.take (k + 1)).filter (fun p : In => decide (p.1 < (n : Int))))) ∧ m + 1 = (([] : List In) ++ (L.take (k + 1)).filter (fun p : In => decide (p.1 < (n : Int)))).length) := hid (by
              rw [HSu.out, if_pos hF, ← List.append_assoc, icn_app, List.length_append, ← HM.out]
              exact ⟨hown3, rfl⟩)
            have hq := hst
            clear hF hst hrun hown3 hfr3 hbA hoA
            go_wp2_with (at_builtin; refine wpList_app_run rfl (.tmp 31) (.tmp 33) 28 rfl _ _ rfl rfl 28 rfl _ _ HRun.out ?_)
            exact ⟨⟨k + 1, m + 1, ao3, cap3, by omega, by omega, by go_num, rfl, HE, HB3⟩, by simp [intOf]; omega⟩
          · have hF : ¬ (fun p : In => decide (p.1 < (n : Int))) p = true := by simpa using hst
            have HE : Hid ((wr.alloc (inO p)).ownsRow w.heap.size 47 2 (.slice ao2 m cap2) m (icn (([] : List In) ++ (L.take (k + 1)).filter (fun p : In => decide (p.1 < (n : Int))))) ∧ m = (([] : List In) ++ (L.take (k + 1)).filter (fun p : In => decide (p.1 < (n : Int)))).length) := hid (by rw [HSu.out, if_neg hF, List.append_nil]; exact ⟨HOA.out, HM.out⟩)
            have hq := hst
            clear hF hst hbA hoA
            go_wp2_with fail
            exact ⟨⟨k + 1, m, ao2, cap2, by omega, by omega, by go_num, rfl, HE, HBA⟩, by simp [intOf]; omega⟩
        · have hFull : L.take k = L := List.take_of_length_le (show L.length ≤ k by rw [← HN.out]; omega)
          have HOF : Hid (wr.ownsRow w.heap.size 47 2 (.slice ao2 m cap2) m (icn (([] : List In) ++ L.filter (fun p : In => decide (p.1 < (n : Int))))) ∧ m = (([] : List In) ++ L.filter (fun p : In => decide (p.1 < (n : Int)))).length) := by
            have := HO.out
            rw [hFull] at this
            exact this
          clear hFull
          have hmN : m ≤ 3 := by omega
          have hHM : m = (L.filter (fun p : In => decide (p.1 < (n : Int)))).length := HOF.out.2
          obtain ⟨ao3, cap3, w3, hrun, hown3, hfr3, _, _⟩ := app_far (te := 47) under28 info47x rfl (by omega) (by omega) HOF.out.1 (inC ((n : Int), [])) rfl (inl_one _) (by omega) HB.out.size
          have HRun : Hid ((Builtin.append_ #[28, 28] 28 #[.slice ao2 m cap2, .slice (some ⟨wr.heap.size, 0, none⟩) 1 1]).run Try.prog (wr.alloc (.cells #[i64 n, .string ⟨#[]⟩] 47)) = .ok (.slice ao3 (m + 1) cap3) w3) := hrun
          have HB3 : Hid (Below w.heap.size w w3) := HB.out.trans hfr3.below
          have HE : Hid (w3.ownsRow w.heap.size 47 2 (.slice ao3 (m + 1) cap3) (m + 1) (icn ((L.filter (fun p : In => decide (p.1 < (n : Int))) ++ [((n : Int), [])]) ++ (L.take 0).filter (fun p : In => decide ((n : Int) < p.1)))) ∧ m + 1 = ((L.filter (fun p : In => decide (p.1 < (n : Int))) ++ [((n : Int), [])]) ++ (L.take 0).filter (fun p : In => decide ((n : Int) < p.1))).length) := hid (by
            rw [List.take_zero, List.filter_nil, List.append_nil, icn_app, List.length_append, ← hHM]
            exact ⟨hown3, rfl⟩)
          have b1 : w3.cell? ⟨r, 0, none⟩ = some (.slice ao N cap) := blk_cell (blk_below HK.out HB3.out) 0
          clear hrun hown3 hfr3 hHM HO HOF HB
          go_wp2_with (at_builtin; refine wpList_app_run rfl (.tmp 36) (.tmp 39) 28 rfl _ _ rfl rfl 28 rfl _ _ HRun.out ?_)
          clear b1
          go_loopw [5, 46] (fun c ix wr => ∃ (k m : Nat) (ao2 : Option Addr) (cap2 : Nat), k ≤ N ∧ m ≤ 4 + k ∧ ix = i64 k ∧ c = .slice ao2 m cap2 ∧ Hid (wr.ownsRow w.heap.size 47 2 (.slice ao2 m cap2) m (icn ((L.filter (fun p : In => decide (p.1 < (n : Int))) ++ [((n : Int), [])]) ++ (L.take k).filter (fun p : In => decide ((n : Int) < p.1)))) ∧ m = ((L.filter (fun p : In => decide (p.1 < (n : Int))) ++ [((n : Int), [])]) ++ (L.take k).filter (fun p : In => decide ((n : Int) < p.1))).length) ∧ Hid (Below w.heap.size w wr)) (fun _ ix _ => N - (intOf ix).toNat)
          case atStart => exact ⟨0, m + 1, ao3, cap3, by omega, by omega, rfl, rfl, HE, HB3⟩
          case round =>
            obtain ⟨k, m, ao2, cap2, hk, hm, rfl, rfl, HO, HB⟩ := hrel
            by_cases hlt : k < N
            · have hlt2 : k < L.length := by rw [← HN.out]; exact hlt
              obtain ⟨p, hp⟩ : ∃ p, L[k]? = some p := ⟨_, List.getElem?_eq_getElem hlt2⟩
              obtain ⟨ao', cap', hbk', hown', hcap', hrow⟩ := (HR.out.below HB.out).row
              have hs := (blk_below HK.out HB.out).symm.trans hbk'
              simp only [Option.some.injEq, Obj.cells.injEq, Array.mk.injEq, List.cons.injEq, Value.slice.injEq, and_true] at hs
              obtain ⟨rfl, hNN, rfl⟩ := hs
              clear hNN
              obtain ⟨g, rfl, hbg, hgl, _, c0, c1, _⟩ := hrow k p hp
              have hbA : Below w.heap.size w (wr.alloc (inO p)) := HB.out.alloc HB.out.size _
              have hoA : (wr.alloc (inO p)).ownsRow w.heap.size 47 2 (.slice ao2 m cap2) m (icn ((L.filter (fun p : In => decide (p.1 < (n : Int))) ++ [((n : Int), [])]) ++ (L.take k).filter (fun p : In => decide ((n : Int) < p.1)))) := HO.out.1.alloc _
              have HBA := hid hbA
              have HOA := hid hoA
              have HSu := hid (filt_succ hp (fun p : In => decide ((n : Int) < p.1)))
              have HM := hid HO.out.2
              have hmN : m ≤ 20 := by omega
              clear hrow hp hbk' hown'
              by_cases hst : (n : Int) < p.1
              · obtain ⟨ao3, cap3, w3, hrun, hown3, hfr3, _, _⟩ := app_far (te := 47) under28 info47x rfl (by omega) (by omega) hoA (inC p) rfl (inl_one p) (by omega) hbA.size
                have HRun : Hid ((Builtin.append_ #[28, 28] 28 #[.slice ao2 m cap2, .slice (some ⟨wr.heap.size + 1, 0, none⟩) 1 1]).run Try.prog ((wr.alloc (inO p)).alloc (.cells #[i64 p.1, str p.2] 47)) = .ok (.slice ao3 (m + 1) cap3) w3) := hid (by
                  have := hrun
                  rw [show (wr.alloc (inO p)).heap.size = wr.heap.size + 1 by simp] at this
                  exact this)
                have HB3 : Hid (Below w.heap.size w w3) := hbA.trans hfr3.below
                have hF : (fun p : In => decide ((n : Int) < p.1)) p = true := by simpa using hst
                have HE : Hid (w3.ownsRow w.heap.size 47 2 (.slice ao3 (m + 1) cap3) (m + 1) (icn ((L.filter (fun p : In => decide (p.1 < (n : Int))) ++ [((n : Int), [])]) ++ (L.take (k + 1)).filter (fun p : In => decide ((n : Int) < p.1)))) ∧ m + 1 = ((L.filter (fun p : In => decide (p.1 < (n : Int))) ++ [((n : Int), [])]) ++ (L.take (k + 1)).filter (fun p : In => decide ((n : Int) < p.1))).length) := hid (by
                  rw [HSu.out, if_pos hF, ← List.append_assoc, icn_app, List.length_append, ← HM.out]
                  exact ⟨hown3, rfl⟩)
                have hq := hst
                clear hF hst hrun hown3 hfr3 hbA hoA
                go_wp2_with (at_builtin; refine wpList_app_run rfl (.tmp 54) (.tmp 56) 28 rfl _ _ rfl rfl 28 rfl _ _ HRun.out ?_)
                exact ⟨⟨k + 1, m + 1, ao3, cap3, by omega, by omega, by go_num, rfl, HE, HB3⟩, by simp [intOf]; omega⟩
              · have hF : ¬ (fun p : In => decide ((n : Int) < p.1)) p = true := by simpa using hst
                have HE : Hid ((wr.alloc (inO p)).ownsRow w.heap.size 47 2 (.slice ao2 m cap2) m (icn ((L.filter (fun p : In => decide (p.1 < (n : Int))) ++ [((n : Int), [])]) ++ (L.take (k + 1)).filter (fun p : In => decide ((n : Int) < p.1)))) ∧ m = ((L.filter (fun p : In => decide (p.1 < (n : Int))) ++ [((n : Int), [])]) ++ (L.take (k + 1)).filter (fun p : In => decide ((n : Int) < p.1))).length) := hid (by rw [HSu.out, if_neg hF, List.append_nil]; exact ⟨HOA.out, HM.out⟩)
                have hq := hst
                clear hF hst hbA hoA
                go_wp2_with fail
                exact ⟨⟨k + 1, m, ao2, cap2, by omega, by omega, by go_num, rfl, HE, HBA⟩, by simp [intOf]; omega⟩
            · have hFull : L.take k = L := List.take_of_length_le (show L.length ≤ k by rw [← HN.out]; omega)
              have HOF : Hid (wr.ownsRow w.heap.size 47 2 (.slice ao2 m cap2) m (icn ((L.filter (fun p : In => decide (p.1 < (n : Int))) ++ [((n : Int), [])]) ++ L.filter (fun p : In => decide ((n : Int) < p.1)))) ∧ m = ((L.filter (fun p : In => decide (p.1 < (n : Int))) ++ [((n : Int), [])]) ++ L.filter (fun p : In => decide ((n : Int) < p.1))).length) := by
                have := HO.out
                rw [hFull] at this
                exact this
              clear hFull
              have hbk1 := blk_below HK.out HB.out
              have b1 : wr.cell? ⟨r, 0, none⟩ = some (.slice ao N cap) := blk_cell hbk1 0
              have f1 : wr.frozen? ⟨r, 0, none⟩ = false := blk_frozen hbk1 0
              have HF : Hid (Rb (wr.setCell ⟨r, 0, none⟩ (.slice ao2 m cap2)) base r ((L.filter (fun p : In => decide (p.1 < (n : Int))) ++ [((n : Int), [])]) ++ L.filter (fun p : In => decide ((n : Int) < p.1))) ∧ Fr base [30, 47] w (wr.setCell ⟨r, 0, none⟩ (.slice ao2 m cap2))) := by
                obtain ⟨h1, h2⟩ := HOF.out
                have := HR.out.lay HB.out (X := (L.filter (fun p : In => decide (p.1 < (n : Int))) ++ [((n : Int), [])]) ++ L.filter (fun p : In => decide ((n : Int) < p.1))) (ao := ao2) (cap := cap2) (by rw [← h2]; exact h1)
                rw [← h2] at this
                exact this
              clear hbk1
              go_wp2_with fail
              go_ret2
              exact ⟨rfl, HF.out.1, HF.out.2⟩
theorem ropen_ok {w : World} {base r : Nat} {S : St} (h : Rb w base r (lst S)) : Calls Try.prog 21 #[pq r] w fun e w' => e = .returned (.tuple #[i64 (opnI S), i64 (opnE S)]) ∧ Rb w' base r (lst (opnS S)) ∧ Fr base [30, 47] w w' := by
  obtain ⟨h3, hf1, hf2⟩ := free_spec S
  unfold opnI opnE opnS
  by_cases hn : free S = 3
  · rw [if_pos hn, if_pos hn, if_pos hn]
    refine (ropen_full h (free S) hn hf1).mono ?_
    rintro e w' ⟨rfl, hb⟩
    exact ⟨rfl, h.below hb, Fr.of_below _ hb h.los⟩
  · rw [if_neg hn, if_neg hn, if_neg hn]
    exact ropen_in h (free S) (by omega) hf1 (hf2 (by omega))
end Go.Proofs.Ytojhmiggocommaa
