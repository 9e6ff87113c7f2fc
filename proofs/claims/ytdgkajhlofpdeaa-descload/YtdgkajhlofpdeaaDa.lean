/- The document's table in memory; At, Refs, left, Insert; no statement is proved in this text. -/
import Derived.Test.YtdgkajhlofpdeaaArgs
namespace Go.Proofs.Ytdgkajhlofpdeaa
open Go.ChangeShapes Go.WideShapes Go.ChangeAt Go.RowKit Go.Deep
attribute [local go_sem ↓] Go.wp_at_zero Go.wp_at_succ


def Rb (w : World) (base r : Nat) (L : List En) : Prop := base ≤ r ∧ ∃ ao cap, w.heap[r]? = some (.cells #[.slice ao L.length cap] 29) ∧ w.ownsRow base 42 5 (.slice ao L.length cap) L.length (ecn L)
theorem Rb.lt {w : World} {base r : Nat} {L : List En} (h : Rb w base r L) : r < w.heap.size := by
  obtain ⟨_, ao, cap, h1, _⟩ := h
  exact blk_lt h1
theorem Rb.lo {w : World} {base r : Nat} {L : List En} (h : Rb w base r L) : base ≤ r := h.1
theorem Rb.below {w w' : World} {base r : Nat} {L : List En} (h : Rb w base r L) (hb : Below w.heap.size w w') : Rb w' base r L := by
  obtain ⟨h0, ao, cap, h1, h2⟩ := h
  exact ⟨h0, ao, cap, blk_below h1 hb, own_keep1 h2 fun k hk => hb.block k (h2.lt k hk).2⟩
theorem Rb.fr {w w' : World} {base base' r : Nat} {L : List En} {ts : List TypeId} (h : Rb w base r L) (hf : Fr base' ts w w') (h29 : ts.contains 29 = false) (h42 : ts.contains 42 = false) : Rb w' base r L := by
  obtain ⟨h0, ao, cap, h1, h2⟩ := h
  exact ⟨h0, ao, cap, hf.kept _ _ h1 (by simp only [keeps, h29]; rfl), own_keep h2 fun k _ hk => hf.kept k _ hk (by simp only [keeps, h42]; rfl)⟩
theorem own_cap {w : World} {base : Nat} {t : TypeId} {n cap : Nat} {ao : Option Addr} {xs : List Value} (h2 : w.ownsRow base t 5 (.slice ao n cap) n xs) : n ≤ cap := by
  by_cases h0 : 0 < n
  · obtain ⟨g, _, _, cur, _, hc⟩ := own_zero h2 h0
    exact hc
  · omega
/-- Where a place stands. -/
def posF (L : List En) (k : K) (n : Int) : Int := match L with
  | [] => -1
  | e :: l => if e.1 = k then n else posF l k (n + 1)
theorem posF_none (L : List En) (k : K) (n : Int) (h : ∀ e ∈ L, e.1 ≠ k) : posF L k n = -1 := by
  induction L generalizing n with
  | nil => rfl
  | cons e l ih =>
    rw [posF, if_neg (h e (by simp))]
    exact ih _ fun e he => h e (List.mem_cons_of_mem _ he)
theorem posF_at (L : List En) (k : K) (n : Int) (i : Nat) (hi : i < L.length) (h1 : L[i].1 = k) (h2 : ∀ (j : Nat) (hj : j < i), L[j].1 ≠ k) : posF L k n = n + i := by
  induction L generalizing n i with
  | nil => simp at hi
  | cons e l ih =>
    cases i with
    | zero =>
      have h1' : e.1 = k := h1
      rw [posF, if_pos h1']
      simp
    | succ i =>
      have h0 : e.1 ≠ k := h2 0 (by omega)
      rw [posF, if_neg h0, ih (n + 1) i (by simpa using hi) (by simpa using h1) fun j hj => by simpa using h2 (j + 1) (by omega)]
      push_cast
      omega
theorem drop_at {L : List En} {k : Nat} {e : En} (h : L[k]? = some e) : L.drop k = e :: L.drop (k + 1) := by
  obtain ⟨hk, rfl⟩ := List.getElem?_eq_some_iff.1 h
  exact List.drop_eq_getElem_cons hk
theorem key_eq (e : En) (p s : Int) : e.1 = (p, s) ↔ e.1.1 = p ∧ e.1.2 = s := by
  obtain ⟨⟨a, b⟩, t⟩ := e
  simp
set_option maxRecDepth 100000 in
set_option maxHeartbeats 1600000 in
theorem rat_ok {w : World} {base r : Nat} {L : List En} (h : Rb w base r L) (hl : L.length ≤ 1000) (p s : Int) : Calls Try.prog 17 #[pq r, i64 p, i64 s] w fun e w' => e = .returned (i64 (posF L (p, s) 0)) ∧ Below w.heap.size w w' := by
  obtain ⟨hlo, ao, cap, hbk, hown⟩ := h
  have hcap := own_cap hown
  have HRd0 : Hid (Rd5 w ao L) := Rd5.own hown
  have b0 : w.cell? ⟨r, 0, none⟩ = some (.slice ao L.length cap) := blk_cell hbk 0
  obtain ⟨N, hN⟩ : ∃ N, N = L.length := ⟨_, rfl⟩
  have HN : Hid (N = L.length) := hN
  rw [← hN] at b0 hl hcap
  obtain ⟨A, hA⟩ : ∃ A, A = posF L (p, s) 0 := ⟨_, rfl⟩
  have HA := hid hA
  rw [← hA]
  clear hbk hown hN hA
  go_enter Try.func17, Try.ntmps17
  go_wp2_with fail
  go_loopw [14] (fun i wr => ∃ k : Nat, k ≤ N ∧ i = i64 k ∧ Hid (A = posF (L.drop k) (p, s) k) ∧ Hid (Below w.heap.size w wr)) (fun i _ => N - (intOf i).toNat)
  case atStart => exact ⟨0, by omega, rfl, HA, Below.refl _ _⟩
  case round =>
    obtain ⟨k, hk, rfl, HP, HB⟩ := hrel
    by_cases hlt : k < N
    · have hkI : (k : Int) < N := by omega
      obtain ⟨e, he⟩ : ∃ e, L[k]? = some e := ⟨_, List.getElem?_eq_getElem (by rw [← HN.out]; exact hlt)⟩
      obtain ⟨g, o, rfl, hgl, c0, c1, c2, c3, c4⟩ := HRd0.out.below HB.out k e he
      have HBV : Hid (Below w.heap.size w (wr.alloc (enO e.1.1 e.1.2 e.2.1 e.2.2.1 e.2.2.2 42))) := HB.out.alloc HB.out.size _
      have hP := HP.out
      rw [drop_at he, posF] at hP
      by_cases h1 : e.1.1 = p
      · have q1 : (e.1.1 == p) = true := beq_iff_eq.2 h1
        by_cases h2 : e.1.2 = s
        · have q2 : (e.1.2 == s) = true := beq_iff_eq.2 h2
          rw [if_pos ((key_eq e p s).2 ⟨h1, h2⟩)] at hP
          have HE := hid hP
          clear h1 h2 he hP
          go_wp2_with fail
          go_ret
          exact ⟨by rw [HE.out]; rfl, HBV.out⟩
        · have q2 : (e.1.2 == s) = false := beq_false_of_ne h2
          rw [if_neg (fun h => h2 ((key_eq e p s).1 h).2)] at hP
          have HE : Hid (A = posF (L.drop (k + 1)) (p, s) ((k + 1 : Nat) : Int)) := hP
          clear h1 h2 he hP
          go_wp2_with fail
          exact ⟨⟨k + 1, by omega, by go_num, HE, HBV⟩, by simp [intOf]; omega⟩
      · have q1 : (e.1.1 == p) = false := beq_false_of_ne h1
        rw [if_neg (fun h => h1 ((key_eq e p s).1 h).1)] at hP
        have HE : Hid (A = posF (L.drop (k + 1)) (p, s) ((k + 1 : Nat) : Int)) := hP
        clear h1 he hP
        go_wp2_with fail
        exact ⟨⟨k + 1, by omega, by go_num, HE, HBV⟩, by simp [intOf]; omega⟩
    · have HE : Hid (A = -1) := by
        rw [HP.out, List.drop_of_length_le (by rw [← HN.out]; omega)]
        rfl
      go_wp2_with fail
      go_ret
      exact ⟨by rw [HE.out]; rfl, HB.out⟩
set_option maxRecDepth 100000 in
set_option maxHeartbeats 1600000 in
theorem rrefs_ok {w : World} {base r : Nat} {L : List En} (h : Rb w base r L) (hl : L.length ≤ 1000) (a b : Int) : Calls Try.prog 15 #[pq r, i64 a, i64 b] w fun e w' => e = .returned (i64 (cnt a b L)) ∧ Below w.heap.size w w' := by
  obtain ⟨hlo, ao, cap, hbk, hown⟩ := h
  have hcap := own_cap hown
  have HRd0 : Hid (Rd5 w ao L) := Rd5.own hown
  have b0 : w.cell? ⟨r, 0, none⟩ = some (.slice ao L.length cap) := blk_cell hbk 0
  obtain ⟨N, hN⟩ : ∃ N, N = L.length := ⟨_, rfl⟩
  have HN : Hid (N = L.length) := hN
  rw [← hN] at b0 hl hcap
  clear hbk hown hN
  go_enter Try.func15, Try.ntmps15
  go_wp2_with fail
  go_loopw [7, 15] (fun v i wr => ∃ (k n : Nat), k ≤ N ∧ n ≤ k ∧ i = i64 k ∧ v = i64 n ∧ Hid (n = cnt a b (L.take k)) ∧ Hid (Below w.heap.size w wr) ∧ Hid (Rd5 wr ao L)) (fun _ i _ => N - (intOf i).toNat)
  case atStart => exact ⟨0, 0, by omega, by omega, rfl, rfl, rfl, Below.refl _ _, HRd0⟩
  case round =>
    obtain ⟨k, n, hk, hn, rfl, rfl, HO, HB, HRd⟩ := hrel
    by_cases hlt : k < N
    · have hkI : (k : Int) < N := by omega
      obtain ⟨e, he⟩ : ∃ e, L[k]? = some e := ⟨_, List.getElem?_eq_getElem (by rw [← HN.out]; exact hlt)⟩
      obtain ⟨g, o, rfl, hgl, c0, c1, c2, c3, c4⟩ := HRd.out k e he
      have HBV : Hid (Below w.heap.size w (wr.alloc (enO e.1.1 e.1.2 e.2.1 e.2.2.1 e.2.2.2 42))) := HB.out.alloc HB.out.size _
      have HRV : Hid (Rd5 (wr.alloc (enO e.1.1 e.1.2 e.2.1 e.2.2.1 e.2.2.2 42)) (some ⟨g, o, none⟩) L) := HRd.out.below (below_one wr _)
      by_cases h1 : e.2.1 = a
      · have q1 : (e.2.1 == a) = true := beq_iff_eq.2 h1
        by_cases h2 : e.2.2.1 = b
        · have q2 : (e.2.2.1 == b) = true := beq_iff_eq.2 h2
          have HE : Hid (n + 1 = cnt a b (L.take (k + 1))) := by rw [HO.out]; exact (cnt_yes a b he h1 h2).symm
          clear h1 h2 he
          go_wp2_with fail
          exact ⟨⟨k + 1, n + 1, by omega, by omega, by go_num, by go_num, HE, HBV, HRV⟩, by simp [intOf]; omega⟩
        · have q2 : (e.2.2.1 == b) = false := beq_false_of_ne h2
          have HE : Hid (n = cnt a b (L.take (k + 1))) := by rw [HO.out]; exact (cnt_no a b he (fun h => h2 h.2)).symm
          clear h1 h2 he
          go_wp2_with fail
          exact ⟨⟨k + 1, n, by omega, by omega, by go_num, rfl, HE, HBV, HRV⟩, by simp [intOf]; omega⟩
      · have q1 : (e.2.1 == a) = false := beq_false_of_ne h1
        have HE : Hid (n = cnt a b (L.take (k + 1))) := by rw [HO.out]; exact (cnt_no a b he (fun h => h1 h.1)).symm
        clear h1 he
        go_wp2_with fail
        exact ⟨⟨k + 1, n, by omega, by omega, by go_num, rfl, HE, HBV, HRV⟩, by simp [intOf]; omega⟩
    · have HE : Hid (n = cnt a b L) := by have := HO.out; rw [List.take_of_length_le (by rw [← HN.out]; omega)] at this; exact this
      go_wp2_with fail
      go_ret
      exact ⟨by rw [← HE.out]; rfl, HB.out⟩
/-- Which are left. -/
def lfF (p s : Int) (e : En) : Bool := decide (e.1.1 ≠ p ∨ (0 ≤ s ∧ e.1.2 ≠ s))
theorem flt_yes {f : En → Bool} {L : List En} {k : Nat} {e : En} (h : L[k]? = some e) (hf : f e = true) : (L.take (k + 1)).filter f = (L.take k).filter f ++ [e] := by
  rw [take_last h, List.filter_append]
  simp [hf]
theorem flt_no {f : En → Bool} {L : List En} {k : Nat} {e : En} (h : L[k]? = some e) (hf : f e = false) : (L.take (k + 1)).filter f = (L.take k).filter f := by
  rw [take_last h, List.filter_append]
  simp [hf]
set_option maxRecDepth 100000 in
set_option maxHeartbeats 1600000 in
theorem rleft_ok {w : World} {base r : Nat} {L : List En} (h : Rb w base r L) (hl : L.length ≤ 1000) (p s : Int) : Calls Try.prog 42 #[pq r, i64 p, i64 s] w fun e w' => ∃ ao cap, e = .returned (.slice ao (L.filter (lfF p s)).length cap) ∧ w'.ownsRow w.heap.size 42 5 (.slice ao (L.filter (lfF p s)).length cap) (L.filter (lfF p s)).length (ecn (L.filter (lfF p s))) ∧ Below w.heap.size w w' := by
  obtain ⟨hlo, ao, cap, hbk, hown⟩ := h
  have hcap := own_cap hown
  have HRd0 : Hid (Rd5 w ao L) := Rd5.own hown
  have b0 : w.cell? ⟨r, 0, none⟩ = some (.slice ao L.length cap) := blk_cell hbk 0
  obtain ⟨N, hN⟩ : ∃ N, N = L.length := ⟨_, rfl⟩
  have HN : Hid (N = L.length) := hN
  rw [← hN] at b0 hl hcap
  clear hbk hown hN
  go_enter Try.func42, Try.ntmps42
  go_wp2_with fail
  go_loopw [7, 15] (fun v i wr => ∃ (k n : Nat) (ao2 : Option Addr) (cap2 : Nat), k ≤ N ∧ n ≤ k ∧ i = i64 k ∧ v = .slice ao2 n cap2 ∧ Hid (n = ((L.take k).filter (lfF p s)).length ∧ wr.ownsRow w.heap.size 42 5 (.slice ao2 n cap2) n (ecn ((L.take k).filter (lfF p s)))) ∧ Hid (Below w.heap.size w wr)) (fun _ i _ => N - (intOf i).toNat)
  case atStart => exact ⟨0, 0, none, 0, by omega, by omega, rfl, rfl, ⟨rfl, World.ownsRow_nil _ _ _ _⟩, Below.refl _ _⟩
  case round =>
    obtain ⟨k, n, ao2, cap2, hk, hn, rfl, rfl, HO, HB⟩ := hrel
    by_cases hlt : k < N
    · have hkI : (k : Int) < N := by omega
      obtain ⟨e, he⟩ : ∃ e, L[k]? = some e := ⟨_, List.getElem?_eq_getElem (by rw [← HN.out]; exact hlt)⟩
      obtain ⟨g, o, rfl, hgl, c0, c1, c2, c3, c4⟩ := HRd0.out.below HB.out k e he
      have HBV : Hid (Below w.heap.size w (wr.alloc (enO e.1.1 e.1.2 e.2.1 e.2.2.1 e.2.2.2 42))) := HB.out.alloc HB.out.size _
      by_cases h1 : e.1.1 = p
      · have q1 : (e.1.1 != p) = false := by rw [bne, beq_iff_eq.2 h1]; rfl
        by_cases hs : 0 ≤ s
        · by_cases h2 : e.1.2 = s
          · have q2 : (e.1.2 != s) = false := by rw [bne, beq_iff_eq.2 h2]; rfl
            have HE : Hid (n = ((L.take (k + 1)).filter (lfF p s)).length ∧ (wr.alloc (enO e.1.1 e.1.2 e.2.1 e.2.2.1 e.2.2.2 42)).ownsRow w.heap.size 42 5 (.slice ao2 n cap2) n (ecn ((L.take (k + 1)).filter (lfF p s)))) := by
              rw [flt_no he (decide_eq_false (by omega))]
              exact ⟨HO.out.1, HO.out.2.alloc _⟩
            clear he h1 h2
            go_wp2_with fail
            exact ⟨⟨k + 1, n, ao2, cap2, by omega, by omega, by go_num, rfl, HE, HBV⟩, by simp [intOf]; omega⟩
          · have q2 : (e.1.2 != s) = true := by rw [bne, beq_false_of_ne h2]; rfl
            obtain ⟨ao3, cap3, w3, hrun, hown3, hfr3, _, _⟩ := app_far (te := 42) under27 info42x rfl (by omega) (by omega) (V := wr.alloc (enO e.1.1 e.1.2 e.2.1 e.2.2.1 e.2.2.2 42)) (HO.out.2.alloc _) (eC e) rfl (eC_one _) (by omega) HBV.out.size
            have e1 : (wr.alloc (enO e.1.1 e.1.2 e.2.1 e.2.2.1 e.2.2.2 42)).heap.size = wr.heap.size + 1 := by simp
            rw [e1] at hrun
            have HRun : Hid ((Builtin.append_ #[27, 27] 27 #[.slice ao2 n cap2, .slice (some ⟨wr.heap.size + 1, 0, none⟩) 1 1]).run Try.prog ((wr.alloc (enO e.1.1 e.1.2 e.2.1 e.2.2.1 e.2.2.2 42)).alloc (enO e.1.1 e.1.2 e.2.1 e.2.2.1 e.2.2.2 42)) = .ok (.slice ao3 (n + 1) cap3) w3) := hrun
            have HB3 : Hid (Below w.heap.size w w3) := HBV.out.trans hfr3.below
            have HE : Hid (n + 1 = ((L.take (k + 1)).filter (lfF p s)).length ∧ w3.ownsRow w.heap.size 42 5 (.slice ao3 (n + 1) cap3) (n + 1) (ecn ((L.take (k + 1)).filter (lfF p s)))) := by
              rw [flt_yes he (decide_eq_true (by omega)), ecn_app, ecn_one, List.length_append, ← HO.out.1]
              exact ⟨rfl, hown3⟩
            clear hrun hown3 hfr3 e1 he h1 h2
            go_wp2_with (at_builtin; refine wpList_app_run rfl (.tmp 33) (.tmp 35) 27 rfl _ _ rfl rfl 27 rfl _ _ HRun.out ?_)
            exact ⟨⟨k + 1, n + 1, ao3, cap3, by omega, by omega, by go_num, rfl, HE, HB3⟩, by simp [intOf]; omega⟩
        · have HE : Hid (n = ((L.take (k + 1)).filter (lfF p s)).length ∧ (wr.alloc (enO e.1.1 e.1.2 e.2.1 e.2.2.1 e.2.2.2 42)).ownsRow w.heap.size 42 5 (.slice ao2 n cap2) n (ecn ((L.take (k + 1)).filter (lfF p s)))) := by
            rw [flt_no he (decide_eq_false (by omega))]
            exact ⟨HO.out.1, HO.out.2.alloc _⟩
          clear he h1
          go_wp2_with fail
          exact ⟨⟨k + 1, n, ao2, cap2, by omega, by omega, by go_num, rfl, HE, HBV⟩, by simp [intOf]; omega⟩
      · have q1 : (e.1.1 != p) = true := by rw [bne, beq_false_of_ne h1]; rfl
        obtain ⟨ao3, cap3, w3, hrun, hown3, hfr3, _, _⟩ := app_far (te := 42) under27 info42x rfl (by omega) (by omega) (V := wr.alloc (enO e.1.1 e.1.2 e.2.1 e.2.2.1 e.2.2.2 42)) (HO.out.2.alloc _) (eC e) rfl (eC_one _) (by omega) HBV.out.size
        have e1 : (wr.alloc (enO e.1.1 e.1.2 e.2.1 e.2.2.1 e.2.2.2 42)).heap.size = wr.heap.size + 1 := by simp
        rw [e1] at hrun
        have HRun : Hid ((Builtin.append_ #[27, 27] 27 #[.slice ao2 n cap2, .slice (some ⟨wr.heap.size + 1, 0, none⟩) 1 1]).run Try.prog ((wr.alloc (enO e.1.1 e.1.2 e.2.1 e.2.2.1 e.2.2.2 42)).alloc (enO e.1.1 e.1.2 e.2.1 e.2.2.1 e.2.2.2 42)) = .ok (.slice ao3 (n + 1) cap3) w3) := hrun
        have HB3 : Hid (Below w.heap.size w w3) := HBV.out.trans hfr3.below
        have HE : Hid (n + 1 = ((L.take (k + 1)).filter (lfF p s)).length ∧ w3.ownsRow w.heap.size 42 5 (.slice ao3 (n + 1) cap3) (n + 1) (ecn ((L.take (k + 1)).filter (lfF p s)))) := by
          rw [flt_yes he (decide_eq_true (by omega)), ecn_app, ecn_one, List.length_append, ← HO.out.1]
          exact ⟨rfl, hown3⟩
        clear hrun hown3 hfr3 e1 he h1
        go_wp2_with (at_builtin; refine wpList_app_run rfl (.tmp 33) (.tmp 35) 27 rfl _ _ rfl rfl 27 rfl _ _ HRun.out ?_)
        exact ⟨⟨k + 1, n + 1, ao3, cap3, by omega, by omega, by go_num, rfl, HE, HB3⟩, by simp [intOf]; omega⟩
    · have hE : n = (L.filter (lfF p s)).length ∧ wr.ownsRow w.heap.size 42 5 (.slice ao2 n cap2) n (ecn (L.filter (lfF p s))) := by
        have := HO.out
        rw [List.take_of_length_le (by rw [← HN.out]; omega)] at this
        exact this
      have HE1 : Hid (n = (L.filter (lfF p s)).length) := hE.1
      have HO2 : Hid (wr.ownsRow w.heap.size 42 5 (.slice ao2 (L.filter (lfF p s)).length cap2) (L.filter (lfF p s)).length (ecn (L.filter (lfF p s)))) := by
        have := hE.2
        rw [hE.1] at this
        exact this
      clear hE
      go_wp2_with fail
      go_ret
      exact ⟨ao2, cap2, by rw [← HE1.out]; rfl, HO2.out, HB.out⟩
end Go.Proofs.Ytdgkajhlofpdeaa
