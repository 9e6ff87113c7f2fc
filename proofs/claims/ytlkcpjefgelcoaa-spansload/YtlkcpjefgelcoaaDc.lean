/- The document's Map, Fork, Right; no statement is proved in this text. -/
import Derived.Test.YtlkcpjefgelcoaaDb
namespace Go.Proofs.Ytlkcpjefgelcoaa
open Go.ChangeShapes Go.WideShapes Go.ChangeAt Go.RowKit Go.Deep
attribute [local go_sem ↓] Go.wp_at_zero Go.wp_at_succ

theorem fit_lay {L : List Ar} {p n : Int} {k : Nat} (hc : cntL L p < 4) (h : layB L (p, (k : Int), n) = false) : fitB L (p, (k : Int), n) = false := by
  have h1 : cntL L (p, (k : Int), n).1 < 4 := hc
  simp only [layB, h1, decide_true, Bool.true_and] at h
  simp [fitB, h]
theorem fit_out {L : List Ar} {p n : Int} {k : Nat} (h : 16 < (k : Int) + n) : fitB L (p, (k : Int), n) = false := by
  have : isA (p, (k : Int), n) = false := by simp only [isA]; exact decide_eq_false (by omega)
  simp [fitB, this]
theorem fit_yes {L : List Ar} {a : Ar} (ha : isA a = true) (h : layB L a = true) : fitB L a = true := by
  have := (layB_iff.1 h).2
  simp only [fitB, ha, Bool.true_and, Bool.not_eq_true', List.any_eq_false]
  intro b hb h2
  rw [this b hb] at h2
  cases h2
theorem lay_fit {L : List Ar} {a : Ar} : (fitB L a = true ∧ cntL L a.1 < 4) ↔ (isA a = true ∧ layB L a = true) := by
  constructor
  · rintro ⟨h1, h2⟩
    have h3 : isA a = true ∧ (!L.any (meetF a)) = true := by simpa only [fitB, Bool.and_eq_true] using h1
    exact ⟨h3.1, by simp only [layB, h2, decide_true, Bool.true_and]; exact h3.2⟩
  · rintro ⟨h1, h2⟩
    exact ⟨fit_yes h1 h2, (layB_iff.1 h2).1⟩
set_option maxRecDepth 100000 in
set_option maxHeartbeats 3200000 in
theorem rmap_arg (w : World) (r : Nat) (p n : Int) (h : ¬((1 ≤ p ∧ p ≤ 6) ∧ 1 ≤ n ∧ n ≤ 16)) : Calls Try.prog 56 #[pq r, i64 p, i64 n] w fun e w' => e = .returned (.tuple #[i64 0, i64 1]) ∧ Below w.heap.size w w' := by
  have HB := hid (Below.refl w.heap.size w)
  by_cases h1 : p < 1
  · clear h
    go_enter Try.func56, Try.ntmps56
    go_wp2_with fail
    go_ret2
    exact ⟨rfl, HB.out⟩
  · by_cases h2 : 6 < p
    · clear h
      go_enter Try.func56, Try.ntmps56
      go_wp2_with fail
      go_ret2
      exact ⟨rfl, HB.out⟩
    · by_cases h3 : n < 1
      · clear h
        go_enter Try.func56, Try.ntmps56
        go_wp2_with fail
        go_ret2
        exact ⟨rfl, HB.out⟩
      · have h4 : 16 < n := by omega
        clear h
        go_enter Try.func56, Try.ntmps56
        go_wp2_with fail
        go_ret2
        exact ⟨rfl, HB.out⟩
set_option maxRecDepth 100000 in
set_option maxHeartbeats 3200000 in
theorem rmap_no {w : World} {base r : Nat} {L : List Ar} (p n : Int) (h : (1 ≤ p ∧ p ≤ 6) ∧ 1 ≤ n ∧ n ≤ 16) (hR : Rb w base r L) (hg : Good L) (hm : MapNo L p n) : Calls Try.prog 56 #[pq r, i64 p, i64 n] w fun e w' => e = .returned (.tuple #[i64 0, i64 5]) ∧ Below w.heap.size w w' := by
  obtain ⟨⟨p1, p2⟩, n1, n2⟩ := h
  have hl : L.length ≤ 1000 := Nat.le_trans hg.len (by omega)
  have HG := hid hg
  have HR := hid hR
  have HCt := hid (rcount_ok hR hl p)
  obtain ⟨C, hC⟩ : ∃ C, C = cntL L p := ⟨_, rfl⟩
  rw [← hC] at HCt
  have HCe := hid hC
  have HM := hid hm
  clear hm hg hR hC
  by_cases h4 : 3 < C
  · go_enter Try.func56, Try.ntmps56
    go_wp2_with fail
    refine HCt.out.mono ?_
    rintro e w1 ⟨rfl, hb1⟩
    have HB1 := hid hb1
    have HR1 := hid (HR.out.below hb1)
    clear hb1 HCt
    go_wp2_with fail
    go_ret2
    exact ⟨rfl, HB1.out⟩
  · have h4' : C ≤ 3 := by omega
    clear h4
    go_enter Try.func56, Try.ntmps56
    go_wp2_with fail
    refine HCt.out.mono ?_
    rintro e w1 ⟨rfl, hb1⟩
    have HB1 := hid hb1
    have HR1 := hid (HR.out.below hb1)
    clear hb1 HCt
    go_wp2_with fail
    go_loopw [8] (fun u wr => ∃ (k : Nat), k ≤ 16 ∧ u = i64 k ∧ Hid (Below w.heap.size w wr)) (fun u _ => 17 - (intOf u).toNat)
    case atStart => exact ⟨0, by omega, rfl, HB1⟩
    case round =>
      obtain ⟨k, hk, rfl, HB⟩ := hrel
      by_cases hlt : k < 16
      · have hfit : fitB L (p, (k : Int), n) = false := by
          by_cases hkn : (k : Int) + n ≤ 16
          · exact fit_lay (by rw [← HCe.out]; omega) (HM.out k hkn)
          · exact fit_out (by omega)
        have HFi := hid (rfits_ok (HR.out.below HB.out) hl HG.out.isA (p, (k : Int), n))
        rw [hfit] at HFi
        clear hfit
        go_wp2_with fail
        refine HFi.out.mono ?_
        rintro e w2 ⟨rfl, hb2⟩
        have HB2 : Hid (Below w.heap.size w w2) := HB.out.trans (hb2.mono HB.out.size)
        clear hb2 HFi
        go_wp2_with fail
        exact ⟨⟨k + 1, by omega, by go_num, HB2⟩, by simp [intOf]; omega⟩
      · obtain rfl : k = 16 := by omega
        go_wp2_with fail
        go_ret2
        exact ⟨rfl, HB.out⟩
set_option maxRecDepth 100000 in
set_option maxHeartbeats 3200000 in
theorem rmap_at {w : World} {base r : Nat} {L : List Ar} (p n : Int) (K : Nat) (h : (1 ≤ p ∧ p ≤ 6) ∧ 1 ≤ n ∧ n ≤ 16) (hR : Rb w base r L) (hg : Good L) (hm : MapAt L p n K) : Calls Try.prog 56 #[pq r, i64 p, i64 n] w fun e w' => e = .returned (.tuple #[i64 K, i64 0]) ∧ Rb w' base r (L ++ [(p, (K : Int), n)]) ∧ Fr base [91, 98] w w' := by
  obtain ⟨⟨p1, p2⟩, n1, n2⟩ := h
  have hl : L.length ≤ 1000 := Nat.le_trans hg.len (by omega)
  have HG := hid hg
  have HR := hid hR
  have HCt := hid (rcount_ok hR hl p)
  obtain ⟨C, hC⟩ : ∃ C, C = cntL L p := ⟨_, rfl⟩
  rw [← hC] at HCt
  have HCe := hid hC
  have HM := hid hm
  have hK : (K : Int) + n ≤ 16 := hm.1
  have h4 : C ≤ 3 := by
    have h1 := (layB_iff.1 hm.2.1).1
    rw [hC]
    have h2 : cntL L p < 4 := h1
    omega
  have hbw := hR.lob
  clear hm hg hR hC
  go_enter Try.func56, Try.ntmps56
  go_wp2_with fail
  refine HCt.out.mono ?_
  rintro e w1 ⟨rfl, hb1⟩
  have HB1 := hid hb1
  have HR1 := hid (HR.out.below hb1)
  clear hb1 HCt
  go_wp2_with fail
  go_loopw [8] (fun u wr => ∃ (k : Nat), k ≤ K ∧ u = i64 k ∧ Hid (Below w.heap.size w wr)) (fun u _ => 17 - (intOf u).toNat)
  case atStart => exact ⟨0, by omega, rfl, HB1⟩
  case round =>
    obtain ⟨k, hk, rfl, HB⟩ := hrel
    have hlt : k < 16 := by omega
    by_cases hkK : k < K
    · have hfit : fitB L (p, (k : Int), n) = false := fit_lay (by rw [← HCe.out]; omega) (HM.out.2.2 k hkK)
      have HFi := hid (rfits_ok (HR.out.below HB.out) hl HG.out.isA (p, (k : Int), n))
      rw [hfit] at HFi
      clear hfit
      go_wp2_with fail
      refine HFi.out.mono ?_
      rintro e w2 ⟨rfl, hb2⟩
      have HB2 : Hid (Below w.heap.size w w2) := HB.out.trans (hb2.mono HB.out.size)
      clear hb2 HFi
      go_wp2_with fail
      exact ⟨⟨k + 1, by omega, by go_num, HB2⟩, by simp [intOf]; omega⟩
    · obtain rfl : k = K := by omega
      have hfit : fitB L (p, (k : Int), n) = true := fit_yes (isA_mk ⟨p1, p2, by simp, n1, hK⟩) HM.out.2.1
      have HFi := hid (rfits_ok (HR.out.below HB.out) hl HG.out.isA (p, (k : Int), n))
      rw [hfit] at HFi
      clear hfit
      go_wp2_with fail
      refine HFi.out.mono ?_
      rintro e w2 ⟨rfl, hb2⟩
      have HB2 : Hid (Below w.heap.size w w2) := HB.out.trans (hb2.mono HB.out.size)
      clear hb2 HFi
      obtain ⟨hlo, ao, cap, hbk, hown⟩ := HR.out.below HB2.out
      obtain ⟨ao6, cap6, w6, hrun, hown6, hfr6, hfar6, hob6⟩ := app_far (te := 98) under27 info58x rfl (by omega) (by omega) (V := w2) hown (aC (p, (k : Int), n)) rfl (aC_one _) (by omega) (Nat.le_trans hbw HB2.out.size)
      have HP6 : Hid (w6.heap[r]? = some (.cells #[.slice ao L.length cap] 91)) := hfr6.kept _ _ hbk (by rfl)
      have HFR := hid hfr6
      have hbk0 : w2.cell? ⟨r, 0, none⟩ = some (.slice ao L.length cap) := blk_cell hbk 0
      obtain ⟨N, hN⟩ : ∃ N, N = L.length := ⟨_, rfl⟩
      have HN := hid hN
      rw [← hN] at hrun hown6 HP6 hbk0 hl
      have HRUN : Hid ((Builtin.append_ #[89, 89] 89 #[.slice ao N cap, .slice (some ⟨w2.heap.size, 0, none⟩) 1 1]).run Try.prog (w2.alloc (arO (p, (k : Int), n) 98)) = .ok (.slice ao6 (N + 1) cap6) w6) := hrun
      have HRb : Hid (Rb (w6.setCell ⟨r, 0, none⟩ (.slice ao6 (N + 1) cap6)) base r (L ++ [(p, (k : Int), n)])) := set_rb hlo HP6.out (by rw [List.length_append, ← hN]; rfl) (by rw [acn_app, acn_one]; exact hown6)
      have HF7 : Hid (Fr base [91, 98] w (w6.setCell ⟨r, 0, none⟩ (.slice ao6 (N + 1) cap6))) := by
        refine (Fr.of_below _ HB2.out hbw).trans (Fr.trans ?_ (Fr.of_touch ((Touch.refl r w6).setCell rfl _) HP6.out (by rfl) hlo))
        exact HFR.out.mono (fun o ho => by
          cases o with
          | cells C t fr => simp only [keeps, Bool.not_eq_true', List.contains_eq_mem, decide_eq_false_iff_not, List.mem_cons, List.not_mem_nil, or_false, not_or] at ho ⊢; exact ho.2
          | map es c => simp only [keeps]; rfl
          | _ => rfl)
      have r0 : w6.cell? ⟨r, 0, none⟩ = some (.slice ao N cap) := blk_cell HP6.out 0
      have rf : w6.frozen? ⟨r, 0, none⟩ = false := blk_frozen HP6.out 0
      have hr2 : r < w2.heap.size := World.block_lt_of_cell? _ _ hbk0
      clear hbk hown hrun hown6 hfr6 hfar6 hob6 hN
      go_wp2_with (at_builtin; refine wpList_app_run rfl (.tmp 46) (.tmp 51) 89 rfl _ _ rfl rfl 89 rfl _ _ HRUN.out ?_)
      go_ret2
      exact ⟨rfl, HRb.out, HF7.out⟩
end Go.Proofs.Ytlkcpjefgelcoaa
