/- List, Refs, Get, stand; no statement is proved in this text. -/
import Derived.Test.YtdgkajhlofpdeaaRo
namespace Go.Proofs.Ytdgkajhlofpdeaa
open Go.ChangeShapes Go.WideShapes Go.ChangeAt Go.RowKit Go.Deep
attribute [local go_sem ↓] Go.wp_at_zero Go.wp_at_succ

set_option maxRecDepth 100000 in
set_option maxHeartbeats 1600000 in
theorem list_ok (w : World) (base : Nat) (pv : Value) (S : St) (h : Tv w base pv S) : Calls Try.prog 13 #[pv] w fun e w' => ∃ ao cap, e = .returned (.slice ao (lst S).length cap) ∧ w'.ownsRow w.heap.size 38 5 (.slice ao (lst S).length cap) (lst S).length (ecn (lst S)) ∧ Below w.heap.size w w' := by
  have HH := hid h
  clear h
  go_enter Try.func13, Try.ntmps13
  go_wp2_with fail
  go_loopw [3, 4] (fun v i wr => ∃ (k n : Nat) (ao : Option Addr) (cap : Nat), k ≤ 6 ∧ n ≤ 36 ∧ i = i64 ((k : Int) + 1) ∧ v = .slice ao n cap ∧ Hid (n = (allK S k).length ∧ wr.ownsRow w.heap.size 38 5 (.slice ao n cap) n (ecn (allK S k))) ∧ Hid (Below w.heap.size w wr)) (fun _ i _ => 7 - (intOf i).toNat)
  case atStart => exact ⟨0, 0, none, 0, by omega, by omega, rfl, rfl, ⟨rfl, World.ownsRow_nil _ _ _ _⟩, Below.refl _ _⟩
  case round =>
    obtain ⟨k, n, ao, cap, hk, hn, rfl, rfl, HO, HB⟩ := hrel
    by_cases hlt6 : k < 6
    · have hkI : (k : Int) + 1 ≤ 6 := by omega
      have HC := hid (of_ok wr base pv S ((k : Int) + 1) (HH.out.below HB.out))
      have hnk : n ≤ 6 * k := by rw [HO.out.1]; exact allK_len S k
      obtain ⟨m, hm⟩ : ∃ m, m = (ofL S ((k : Int) + 1)).length := ⟨_, rfl⟩
      have hm6 : m ≤ 6 := by rw [hm]; exact ofK_len S _ 6
      rw [← hm] at HC
      have HM := hid hm
      clear hm
      go_wp2_with fail
      refine HC.out.mono ?_
      rintro e w2 ⟨ao2, cap2, rfl, hown2, hb2⟩
      have hown1 := own_keep1 HO.out.2 (fun g hg => hb2.block g (HO.out.2.lt g hg).2)
      have hbV : Below w.heap.size w w2 := HB.out.trans (hb2.mono HB.out.size)
      obtain ⟨ao3, cap3, w3, hrun, hown3, hb3⟩ := app_many hown1 (own_low hown2 HB.out.size) (by omega) hbV.size
      have HRun : Hid ((Builtin.append_ #[34, 34] 34 #[.slice ao n cap, .slice ao2 m cap2]).run Try.prog w2 = .ok (.slice ao3 (n + m) cap3) w3) := hrun
      have HB3 : Hid (Below w.heap.size w w3) := hbV.trans hb3
      have HE : Hid (n + m = (allK S (k + 1)).length ∧ w3.ownsRow w.heap.size 38 5 (.slice ao3 (n + m) cap3) (n + m) (ecn (allK S (k + 1)))) := by
        rw [allK, ecn_app, List.length_append, ← HO.out.1, ← HM.out]
        exact ⟨rfl, hown3⟩
      clear hb2 HC hown1 hown2 hbV hrun hown3 hb3
      go_wp2_with (at_builtin; refine wpList_app_run rfl (.tmp 9) (.tmp 12) 34 rfl _ _ rfl rfl 34 rfl _ _ HRun.out ?_)
      exact ⟨⟨k + 1, n + m, ao3, cap3, by omega, by omega, by go_num, rfl, HE, HB3⟩, by simp [intOf]; omega⟩
    · obtain rfl : k = 6 := by omega
      have HE : Hid (n = (lst S).length) := HO.out.1
      have HO2 : Hid (wr.ownsRow w.heap.size 38 5 (.slice ao (lst S).length cap) (lst S).length (ecn (lst S))) := by
        have := HO.out.2
        rw [HO.out.1] at this
        exact this
      go_wp2_with fail
      go_ret
      exact ⟨ao, cap, by rw [← HE.out]; rfl, HO2.out, HB.out⟩
/-- How many there are of an object. -/
def cnt (a b : Int) (L : List En) : Nat := (L.filter fun e => decide (e.2.1 = a ∧ e.2.2.1 = b)).length
theorem cnt_le (a b : Int) (L : List En) : cnt a b L ≤ L.length := List.length_filter_le _ _
theorem take_last {L : List En} {k : Nat} {e : En} (h : L[k]? = some e) : L.take (k + 1) = L.take k ++ [e] := by
  obtain ⟨hk, rfl⟩ := List.getElem?_eq_some_iff.1 h
  rw [List.take_append_getElem]
theorem cnt_yes (a b : Int) {L : List En} {k : Nat} {e : En} (h : L[k]? = some e) (h1 : e.2.1 = a) (h2 : e.2.2.1 = b) : cnt a b (L.take (k + 1)) = cnt a b (L.take k) + 1 := by
  unfold cnt
  rw [take_last h, List.filter_append]
  simp [h1, h2]
theorem cnt_no (a b : Int) {L : List En} {k : Nat} {e : En} (h : L[k]? = some e) (h1 : ¬ (e.2.1 = a ∧ e.2.2.1 = b)) : cnt a b (L.take (k + 1)) = cnt a b (L.take k) := by
  unfold cnt
  rw [take_last h, List.filter_append]
  simp only [List.filter_cons, List.filter_nil, decide_eq_false h1]
  simp
set_option maxRecDepth 100000 in
set_option maxHeartbeats 1600000 in
theorem refs_ok (w : World) (base : Nat) (pv : Value) (S : St) (a b : Int) (h : Tv w base pv S) : Calls Try.prog 14 #[pv, i64 a, i64 b] w fun e w' => e = .returned (i64 (cnt a b (lst S))) ∧ Below w.heap.size w w' := by
  have HL := hid (list_ok w base pv S h)
  have hl := lst_len S
  clear h
  generalize lst S = L at *
  obtain ⟨N, hN⟩ : ∃ N, N = L.length := ⟨_, rfl⟩
  have HN := hid hN
  rw [← hN] at HL hl
  clear hN
  go_enter Try.func14, Try.ntmps14
  go_wp2_with fail
  refine HL.out.mono ?_
  rintro e w1 ⟨ao, cap, rfl, hown, hb1⟩
  have HR1 : Hid (Rd5 w1 ao L) := Rd5.own (by rw [← HN.out]; exact hown)
  have hcap : N ≤ cap := by
    by_cases h0 : 0 < N
    · obtain ⟨g, _, _, cur, _, hc⟩ := own_zero hown h0
      exact hc
    · omega
  have HB1 := hid hb1
  clear hb1 hown HL
  go_wp2_with fail
  go_loopw [7, 13] (fun v i wr => ∃ (k n : Nat), k ≤ N ∧ n ≤ k ∧ i = i64 k ∧ v = i64 n ∧ Hid (n = cnt a b (L.take k)) ∧ Hid (Below w.heap.size w wr) ∧ Hid (Rd5 wr ao L)) (fun _ i _ => N - (intOf i).toNat)
  case atStart => exact ⟨0, 0, by omega, by omega, rfl, rfl, rfl, HB1, HR1⟩
  case round =>
    obtain ⟨k, n, hk, hn, rfl, rfl, HO, HB, HRd⟩ := hrel
    by_cases hlt : k < N
    · have hkI : (k : Int) < N := by omega
      obtain ⟨e, he⟩ : ∃ e, L[k]? = some e := ⟨_, List.getElem?_eq_getElem (by rw [← HN.out]; exact hlt)⟩
      obtain ⟨g, o, rfl, hgl, c0, c1, c2, c3, c4⟩ := HRd.out k e he
      have HBV : Hid (Below w.heap.size w (wr.alloc (enO e.1.1 e.1.2 e.2.1 e.2.2.1 e.2.2.2 38))) := HB.out.alloc HB.out.size _
      have HRV : Hid (Rd5 (wr.alloc (enO e.1.1 e.1.2 e.2.1 e.2.2.1 e.2.2.2 38)) (some ⟨g, o, none⟩) L) := HRd.out.below (below_one wr _)
      by_cases h1 : e.2.1 = a
      · have q1 : (e.2.1 == a) = true := beq_iff_eq.2 h1
        by_cases h2 : e.2.2.1 = b
        · have q2 : (e.2.2.1 == b) = true := beq_iff_eq.2 h2
          have HE : Hid (n + 1 = cnt a b (L.take (k + 1))) := by rw [HO.out]; exact (cnt_yes a b he h1 h2).symm
          clear h1 h2 he
          go_wp2_with fail
          exact ⟨⟨k + 1, n + 1, by omega, by omega, by go_num, by go_num, HE, HBV, HRV⟩, by simp [intOf]; omega⟩
        · have q2 : (e.2.2.1 == b) = false := beq_false_of_ne h2
          have HE : Hid (n = cnt a b (L.take (k + 1))) := by rw [HO.out]; exact (cnt_no a b he (fun h => h2 h.2)).symm
          clear h1 h2 he
          go_wp2_with fail
          exact ⟨⟨k + 1, n, by omega, by omega, by go_num, rfl, HE, HBV, HRV⟩, by simp [intOf]; omega⟩
      · have q1 : (e.2.1 == a) = false := beq_false_of_ne h1
        have HE : Hid (n = cnt a b (L.take (k + 1))) := by rw [HO.out]; exact (cnt_no a b he (fun h => h1 h.1)).symm
        clear h1 he
        go_wp2_with fail
        exact ⟨⟨k + 1, n, by omega, by omega, by go_num, rfl, HE, HBV, HRV⟩, by simp [intOf]; omega⟩
    · have HE : Hid (n = cnt a b L) := by have := HO.out; rw [List.take_of_length_le (by rw [← HN.out]; omega)] at this; exact this
      go_wp2_with fail
      go_ret
      exact ⟨by rw [← HE.out]; rfl, HB.out⟩
/-- What Get tells. -/
def getE (S : St) (k : K) : Int := if (S k).isSome then 0 else 6
set_option maxRecDepth 100000 in
set_option maxHeartbeats 1600000 in
theorem get_ok (w : World) (base : Nat) (pv : Value) (S : St) (p s : Int) (h : Tv w base pv S) : Calls Try.prog 16 #[pv, i64 p, i64 s] w fun e w' => e = .returned (.tuple #[lkE (p, s) (S (p, s)), i64 (getE S (p, s))]) ∧ Below w.heap.size w w' := by
  have hz := zero38
  have hb1 := below_one w (enO 0 0 0 0 0 38)
  rcases hS : S (p, s) with _ | ⟨a, b, c⟩
  · unfold getE
    rw [hS]
    have HC := hid (atv_none (w.alloc (enO 0 0 0 0 0 38)) base pv S p s (h.below hb1) hS)
    have HB1 := hid hb1
    have HX := hid (heap_last w (enO 0 0 0 0 0 38))
    clear h hS hb1
    go_enter Try.func16, Try.ntmps16
    go_wp2_with fail
    refine HC.out.mono ?_
    rintro e w2 ⟨rfl, hb2⟩
    have HX2 : Hid (w2.heap[w.heap.size]? = some (enO 0 0 0 0 0 38)) := blk_below HX.out hb2
    have HB2 : Hid (Below w.heap.size w w2) := HB1.out.trans (hb2.mono HB1.out.size)
    have hsz : w.heap.size < w2.heap.size := by have := hb2.size; simp at this; omega
    obtain ⟨x0, x1, x2, x3, x4⟩ := five_cells HX2.out
    have xf := blk_frozen HX2.out
    clear hb2 HC
    go_wp2_with fail
    exact bodyPost_ret (results_cell Try.results16 rfl rfl (load38 (blk_alloc (set5 HX2.out _ _ _ _ _) _))) rfl ⟨rfl, (bel5 HB2.out (Nat.le_refl _) _ _ _ _ _).alloc (bel5 HB2.out (Nat.le_refl _) _ _ _ _ _).size _⟩
  · unfold getE
    rw [hS]
    have HC := hid (atv_some (w.alloc (enO 0 0 0 0 0 38)) base pv S p s a b c (h.below hb1) hS)
    have HB1 := hid hb1
    have HX := hid (heap_last w (enO 0 0 0 0 0 38))
    clear h hS hb1
    go_enter Try.func16, Try.ntmps16
    go_wp2_with fail
    refine HC.out.mono ?_
    rintro e w2 ⟨rfl, hb2⟩
    have HX2 : Hid (w2.heap[w.heap.size]? = some (enO 0 0 0 0 0 38)) := blk_below HX.out hb2
    have HB2 : Hid (Below w.heap.size w w2) := HB1.out.trans (hb2.mono HB1.out.size)
    have hsz : w.heap.size < w2.heap.size := by have := hb2.size; simp at this; omega
    obtain ⟨x0, x1, x2, x3, x4⟩ := five_cells HX2.out
    have xf := blk_frozen HX2.out
    clear hb2 HC
    go_wp2_with fail
    exact bodyPost_ret (results_cell Try.results16 rfl rfl (load38 (blk_alloc (set5 HX2.out _ _ _ _ _) _))) rfl ⟨rfl, (bel5 HB2.out (Nat.le_refl _) _ _ _ _ _).alloc (bel5 HB2.out (Nat.le_refl _) _ _ _ _ _).size _⟩
end Go.Proofs.Ytdgkajhlofpdeaa
