/- The document's Close; no statement is proved in this text. -/
import Derived.Test.YtojhmiggocommaaDw
namespace Go.Proofs.Ytojhmiggocommaa
open Go.ChangeShapes Go.WideShapes Go.ChangeAt Go.RowKit Go.Deep
attribute [local go_sem ↓] Go.wp_at_zero Go.wp_at_succ

theorem filt_succ {L : List In} {k : Nat} {m : In} (hp : L[k]? = some m) (f : In → Bool) : (L.take (k + 1)).filter f = (L.take k).filter f ++ (if f m = true then [m] else []) := by
  rw [List.take_add_one, hp, List.filter_append]
  by_cases h : f m = true <;> simp [h]
theorem filt_len (L : List In) (k : Nat) (f : In → Bool) : ((L.take k).filter f).length ≤ k := Nat.le_trans (List.length_filter_le _ _) (List.length_take_le _ _)
/-- A new list is laid in the place of the old one. -/
theorem Rb.lay {w wr : World} {base r : Nat} {L X : List In} {ao : Option Addr} {cap : Nat} (h : Rb w base r L) (hB : Below w.heap.size w wr) (hO : wr.ownsRow w.heap.size 47 2 (.slice ao X.length cap) X.length (icn X)) : Rb (wr.setCell ⟨r, 0, none⟩ (.slice ao X.length cap)) base r X ∧ Fr base [30, 47] w (wr.setCell ⟨r, 0, none⟩ (.slice ao X.length cap)) := by
  obtain ⟨v, hbk0, _⟩ := h.own
  have hbk := blk_below hbk0 hB
  refine ⟨⟨h.lo, _, heap_setCell_same wr r 0 _ 30 _ hbk, ?_⟩, ?_⟩
  · refine own_keep (own_low hO h.los) (fun k' C hC => ?_)
    rw [Below.heap_setCell _ _ _ _ (fun e => by rw [show k' = r from e, hbk] at hC; simp at hC)]
    exact hC
  · exact (Fr.of_below _ hB h.los).trans (Fr.of_touch ((Touch.refl r wr).setCell rfl _) hbk (by rfl) h.lo)
set_option maxRecDepth 100000 in
set_option maxHeartbeats 12800000 in
theorem rclose_ok {w : World} {base r : Nat} {S : St} (h : Rb w base r (lst S)) (id : Int) : Calls Try.prog 22 #[pq r, i64 id] w fun e w' => e = .returned (i64 (errA S id)) ∧ Rb w' base r (lst (clsS S id)) ∧ Fr base [30, 47] w w' := by
  have HLO := hid h.los
  have HRS := hid h
  have HW := hid (rwrong_ok h id)
  rcases err_cases S id with ⟨hq, hne⟩ | ⟨i, D, hi, rfl, hS, hE, hg⟩
  · unfold clsS
    rw [if_neg hne]
    generalize errA S id = E at *
    clear h hne
    go_enter Try.func22, Try.ntmps22
    go_wp2_with fail
    refine HW.out.mono ?_
    rintro e w1 ⟨rfl, hb⟩
    have HB := hid hb
    clear hb
    go_wp2_with fail
    go_ret
    exact ⟨rfl, HRS.out.below HB.out, Fr.of_below _ HB.out HLO.out⟩
  · unfold clsS
    rw [hE, if_pos rfl, Int.toNat_natCast, ← lst_close S i hi]
    rw [hE] at HW
    obtain ⟨ao, cap, hbk, hown, hcap, _⟩ := h.row
    obtain ⟨L, hL⟩ : ∃ L, L = lst S := ⟨_, rfl⟩
    rw [← hL] at hbk hown hcap
    have HR : Hid (Rb w base r L) := by rw [hL]; exact h
    have HL := hid hL
    have b0 : w.cell? ⟨r, 0, none⟩ = some (.slice ao L.length cap) := blk_cell hbk 0
    have HK : Hid (w.heap[r]? = some (.cells #[.slice ao L.length cap] 30)) := hbk
    have hl : L.length ≤ 3 := by rw [hL]; exact lst_len S
    obtain ⟨N, hN⟩ : ∃ N, N = L.length := ⟨_, rfl⟩
    have HN : Hid (N = L.length) := hN
    rw [← hN] at b0 hl hcap HK
    have hcI : (N : Int) ≤ cap := by omega
    have hNI : (N : Int) ≤ 3 := by omega
    rw [← hL]
    clear h hbk hown hN hL hg hE hS
    go_enter Try.func22, Try.ntmps22
    go_wp2_with fail
    refine HW.out.mono ?_
    rintro e w1 ⟨rfl, hb⟩
    have HB0 := hid hb
    have b1 : w1.cell? ⟨r, 0, none⟩ = some (.slice ao N cap) := blk_cell (blk_below HK.out hb) 0
    clear hb b0
    go_wp2_with fail
    clear b1
    go_loopw [6, 20] (fun c ix wr => ∃ (k m : Nat) (ao2 : Option Addr) (cap2 : Nat), k ≤ N ∧ m ≤ 0 + k ∧ ix = i64 k ∧ c = .slice ao2 m cap2 ∧ Hid (wr.ownsRow w.heap.size 47 2 (.slice ao2 m cap2) m (icn (([] : List In) ++ (L.take k).filter (fun p => p.1 != (i : Int)))) ∧ m = (([] : List In) ++ (L.take k).filter (fun p => p.1 != (i : Int))).length) ∧ Hid (Below w.heap.size w wr)) (fun _ ix _ => N - (intOf ix).toNat)
    case atStart => exact ⟨0, 0, none, 0, by omega, by omega, rfl, rfl, ⟨World.ownsRow_nil _ _ 47 2, rfl⟩, HB0⟩
    case round =>
      obtain ⟨k, m, ao2, cap2, hk, hm, rfl, rfl, HO, HB⟩ := hrel
      by_cases hlt : k < N
      · have hlt2 : k < L.length := by rw [← HN.out]; exact hlt
        obtain ⟨p, hp⟩ : ∃ p, L[k]? = some p := ⟨_, List.getElem?_eq_getElem hlt2⟩
        obtain ⟨ao', cap', hbk', hown', hcap', hrow⟩ := (HR.out.below HB.out).row
        have hs := (blk_below HK.out HB.out).symm.trans hbk'
        simp only [Option.some.injEq, Obj.cells.injEq, Array.mk.injEq, List.cons.injEq, Value.slice.injEq, and_true] at hs
        obtain ⟨rfl, hNN, rfl⟩ := hs
        clear hNN
        obtain ⟨g, rfl, hbg, hgl, _, c0, c1, _⟩ := hrow k p hp
        have hbA : Below w.heap.size w (wr.alloc (inO p)) := HB.out.alloc HB.out.size _
        have hoA : (wr.alloc (inO p)).ownsRow w.heap.size 47 2 (.slice ao2 m cap2) m (icn (([] : List In) ++ (L.take k).filter (fun p => p.1 != (i : Int)))) := HO.out.1.alloc _
        have HBA := hid hbA
        have HOA := hid hoA
        have HSu := hid (filt_succ hp (fun p => p.1 != (i : Int)))
        have HM := hid HO.out.2
        have hmN : m ≤ 20 := by omega
        clear hrow hp hbk' hown'
        by_cases hst : p.1 ≠ (i : Int)
        · obtain ⟨ao3, cap3, w3, hrun, hown3, hfr3, _, _⟩ := app_far (te := 47) under28 info47x rfl (by omega) (by omega) hoA (inC p) rfl (inl_one p) (by omega) hbA.size
          have HRun : Hid ((Builtin.append_ #[28, 28] 28 #[.slice ao2 m cap2, .slice (some ⟨wr.heap.size + 1, 0, none⟩) 1 1]).run Try.prog ((wr.alloc (inO p)).alloc (.cells #[i64 p.1, str p.2] 47)) = .ok (.slice ao3 (m + 1) cap3) w3) := hid (by
            have := hrun
            rw [show (wr.alloc (inO p)).heap.size = wr.heap.size + 1 by simp] at this
            exact this)
          have HB3 : Hid (Below w.heap.size w w3) := hbA.trans hfr3.below
          have hF : (fun p => p.1 != (i : Int)) p = true := by simpa using hst
          have HE : Hid (w3.ownsRow w.heap.size 47 2 (.slice ao3 (m + 1) cap3) (m + 1) (icn (([] : List In) ++ (L.take (k + 1)).filter (fun p => p.1 != (i : Int)))) ∧ m + 1 = (([] : List In) ++ (L.take (k + 1)).filter (fun p => p.1 != (i : Int))).length) := hid (by
            rw [HSu.out, if_pos hF, ← List.append_assoc, icn_app, List.length_append, ← HM.out]
            exact ⟨hown3, rfl⟩)
          have hq : (p.1 != (i : Int)) = true := by simpa using hst
          clear hF hst hrun hown3 hfr3 hbA hoA
          go_wp2_with (at_builtin; refine wpList_app_run rfl (.tmp 28) (.tmp 30) 28 rfl _ _ rfl rfl 28 rfl _ _ HRun.out ?_)
          exact ⟨⟨k + 1, m + 1, ao3, cap3, by omega, by omega, by go_num, rfl, HE, HB3⟩, by simp [intOf]; omega⟩
        · have hF : ¬ (fun p => p.1 != (i : Int)) p = true := by simpa using hst
          have HE : Hid ((wr.alloc (inO p)).ownsRow w.heap.size 47 2 (.slice ao2 m cap2) m (icn (([] : List In) ++ (L.take (k + 1)).filter (fun p => p.1 != (i : Int)))) ∧ m = (([] : List In) ++ (L.take (k + 1)).filter (fun p => p.1 != (i : Int))).length) := hid (by rw [HSu.out, if_neg hF, List.append_nil]; exact ⟨HOA.out, HM.out⟩)
          have hq : (p.1 != (i : Int)) = false := by simpa using hst
          clear hF hst hbA hoA
          go_wp2_with fail
          exact ⟨⟨k + 1, m, ao2, cap2, by omega, by omega, by go_num, rfl, HE, HBA⟩, by simp [intOf]; omega⟩
      · have hFull : L.take k = L := List.take_of_length_le (show L.length ≤ k by rw [← HN.out]; omega)
        have HOF : Hid (wr.ownsRow w.heap.size 47 2 (.slice ao2 m cap2) m (icn (([] : List In) ++ L.filter (fun p => p.1 != (i : Int)))) ∧ m = (([] : List In) ++ L.filter (fun p => p.1 != (i : Int))).length) := by
          have := HO.out
          rw [hFull] at this
          exact this
        clear hFull
        have hbk1 := blk_below HK.out HB.out
        have b1 : wr.cell? ⟨r, 0, none⟩ = some (.slice ao N cap) := blk_cell hbk1 0
        have f1 : wr.frozen? ⟨r, 0, none⟩ = false := blk_frozen hbk1 0
        have HF : Hid (Rb (wr.setCell ⟨r, 0, none⟩ (.slice ao2 m cap2)) base r (L.filter (fun p => p.1 != (i : Int))) ∧ Fr base [30, 47] w (wr.setCell ⟨r, 0, none⟩ (.slice ao2 m cap2))) := by
          obtain ⟨h1, h2⟩ := HOF.out
          rw [List.nil_append] at h1 h2
          have := HR.out.lay HB.out (X := L.filter (fun p => p.1 != (i : Int))) (ao := ao2) (cap := cap2) (by rw [← h2]; exact h1)
          rw [← h2] at this
          exact this
        clear hbk1
        go_wp2_with fail
        go_ret
        exact ⟨rfl, HF.out.1, HF.out.2⟩
end Go.Proofs.Ytojhmiggocommaa
