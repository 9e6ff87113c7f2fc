/- The document's Insert; no statement is proved in this text. -/
import Derived.Test.YtdgkajhlofpdeaaDa
namespace Go.Proofs.Ytdgkajhlofpdeaa
open Go.ChangeShapes Go.WideShapes Go.ChangeAt Go.RowKit Go.Deep
attribute [local go_sem ↓] Go.wp_at_zero Go.wp_at_succ


def InsD (A B : List En) (x : En) (k : Nat) (put : Bool) (D : List En) : Prop := (put = false ∧ k ≤ A.length ∧ D = A.take k) ∨ (put = true ∧ A.length < k ∧ D = A ++ x :: B.take (k - A.length))
theorem insd_a {A B : List En} {x : En} {k : Nat} {D : List En} {e : En} (h : InsD A B x k false D) (hk : k < A.length) (he : (A ++ B)[k]? = some e) : InsD A B x (k + 1) false (D ++ [e]) ∧ e ∈ A := by
  rcases h with ⟨_, _, rfl⟩ | ⟨h, _⟩
  · rw [List.getElem?_append_left hk] at he
    exact ⟨.inl ⟨rfl, by omega, (take_last he).symm⟩, List.mem_of_getElem? he⟩
  · cases h
theorem insd_b {A B : List En} {x : En} {k : Nat} {D : List En} {e : En} (h : InsD A B x k false D) (hk : ¬ k < A.length) (he : (A ++ B)[k]? = some e) : InsD A B x (k + 1) true (D ++ [x] ++ [e]) ∧ e ∈ B := by
  rcases h with ⟨_, hk2, rfl⟩ | ⟨h, _⟩
  · rw [List.getElem?_append_right (by omega)] at he
    refine ⟨.inr ⟨rfl, by omega, ?_⟩, List.mem_of_getElem? he⟩
    have hkA : k = A.length := by omega
    have h0 : k - A.length = 0 := by omega
    rw [h0] at he
    have h1 : k + 1 - A.length = 0 + 1 := by omega
    rw [h1, take_last he, List.take_of_length_le (by omega)]
    simp
  · cases h
theorem insd_n {A B : List En} {x : En} {k n : Nat} {D : List En} (h : InsD A B x k false D) (hn : n = D.length) : n ≤ k := by
  rcases h with ⟨_, _, rfl⟩ | ⟨h, _⟩
  · rw [hn, List.length_take]
    omega
  · cases h
theorem insd_c {A B : List En} {x : En} {k : Nat} {D : List En} {e : En} (h : InsD A B x k true D) (he : (A ++ B)[k]? = some e) : InsD A B x (k + 1) true (D ++ [e]) := by
  rcases h with ⟨h, _⟩ | ⟨_, hk, rfl⟩
  · cases h
  · rw [List.getElem?_append_right (by omega)] at he
    refine .inr ⟨rfl, by omega, ?_⟩
    have h1 : k + 1 - A.length = (k - A.length) + 1 := by omega
    rw [h1, take_last he]
    simp
theorem insd_e {A B : List En} {x : En} {D : List En} (h : InsD A B x (A ++ B).length false D) : D ++ [x] = A ++ x :: B := by
  rcases h with ⟨_, hk, rfl⟩ | ⟨h, _⟩
  · rw [List.length_append] at hk
    have hB : B = [] := List.eq_nil_of_length_eq_zero (by omega)
    subst hB
    rw [List.take_of_length_le (by simp)]
  · cases h
theorem insd_f {A B : List En} {x : En} {D : List En} (h : InsD A B x (A ++ B).length true D) : D = A ++ x :: B := by
  rcases h with ⟨h, _⟩ | ⟨_, hk, rfl⟩
  · cases h
  · rw [List.take_of_length_le (by rw [List.length_append]; omega)]
theorem Touch.fr29 {w w' : World} {base r : Nat} {L : List En} (h : Rb w base r L) (ht : Touch r w w') : Fr base [29, 42] w w' := by
  obtain ⟨h0, ao, cap, h1, _⟩ := h
  exact Fr.of_touch ht h1 rfl h0
theorem Rb.set {V : World} {base r B n cap : Nat} {ao : Option Addr} {L : List En} (h0 : base ≤ r) (hV : V.heap[r]? = some (.cells #[.slice none 0 0] 29) ∨ ∃ v, V.heap[r]? = some (.cells #[v] 29)) (hn : n = L.length) (ho : V.ownsRow B 42 5 (.slice ao n cap) n (ecn L)) (hB : base ≤ B) (hr : r < B) : Rb (V.setCell ⟨r, 0, none⟩ (.slice ao n cap)) base r L := by
  obtain ⟨v, hV⟩ : ∃ v, V.heap[r]? = some (.cells #[v] 29) := by
    rcases hV with h | h
    · exact ⟨_, h⟩
    · exact h
  subst hn
  refine ⟨h0, ao, cap, ?_, own_keep1 (own_low ho hB) fun k hk => Below.heap_setCell _ _ _ _ (by have := (ho.lt k hk).1; show k ≠ r; omega)⟩
  exact heap_setCell_same V r 0 #[v] 29 _ hV
set_option maxRecDepth 100000 in
set_option maxHeartbeats 1600000 in
theorem rins_ok {w : World} {base r : Nat} {A B : List En} (h : Rb w base r (A ++ B)) (hl : (A ++ B).length ≤ 900) (p s a b c : Int) (hA : ∀ e ∈ A, lt2 e.1 (p, s)) (hB : ∀ e ∈ B, lt2 (p, s) e.1) : Calls Try.prog 23 #[pq r, ev p s a b c] w fun e w' => e = .returned (.tuple #[]) ∧ Rb w' base r (A ++ ((p, s), (a, b, c)) :: B) ∧ Touch r w w' := by
  have hrl := h.lt
  obtain ⟨hlo, ao, cap, hbk, hown⟩ := h
  have hcap := own_cap hown
  have HRd0 : Hid (Rd5 w ao (A ++ B)) := Rd5.own hown
  have HBk := hid hbk
  have b0 : w.cell? ⟨r, 0, none⟩ = some (.slice ao (A ++ B).length cap) := blk_cell hbk 0
  obtain ⟨N, hN⟩ : ∃ N, N = (A ++ B).length := ⟨_, rfl⟩
  have HN := hid hN
  rw [← hN] at b0 hl hcap
  have b1 : (w.alloc (enO p s a b c 42)).cell? ⟨r, 0, none⟩ = some (.slice ao N cap) := cell_keep b0 _
  have HA := hid hA
  have HBb := hid hB
  have HX0 := hid (heap_last w (enO p s a b c 42))
  clear hbk hown hN hA hB
  go_enter Try.func23, Try.ntmps23
  go_wp2_with fail
  go_loopw [4, 5, 13] (fun v q i wr => ∃ (k n : Nat) (ao2 : Option Addr) (cap2 : Nat) (put : Bool) (D : List En), k ≤ N ∧ n ≤ k + 1 ∧ i = i64 k ∧ v = .slice ao2 n cap2 ∧ q = .bool put ∧ Hid (InsD A B ((p, s), (a, b, c)) k put D) ∧ Hid (n = D.length ∧ wr.ownsRow (w.heap.size + 1) 42 5 (.slice ao2 n cap2) n (ecn D)) ∧ Hid (Below (w.heap.size + 1) (w.alloc (enO p s a b c 42)) wr)) (fun _ _ i _ => N - (intOf i).toNat)
  case atStart => exact ⟨0, 0, none, 0, false, [], by omega, by omega, rfl, rfl, rfl, .inl ⟨rfl, by omega, by simp⟩, ⟨rfl, World.ownsRow_nil _ _ _ _⟩, Below.refl _ _⟩
  case round =>
    obtain ⟨k, n, ao2, cap2, put, D, hk, hn, rfl, rfl, rfl, HI, HO, HB⟩ := hrel
    have hBw : Below w.heap.size w wr := (below_one w _).trans (HB.out.mono (by omega))
    have HBw := hid hBw
    have hX : wr.heap[w.heap.size]? = some (enO p s a b c 42) := (HB.out.block _ (by omega)).trans HX0.out
    obtain ⟨x0, x1, x2, x3, x4⟩ := five_cells hX
    have hxl : w.heap.size < wr.heap.size := blk_lt hX
    clear hBw hX
    by_cases hlt : k < N
    · have hkI : (k : Int) < N := by omega
      obtain ⟨e, he⟩ : ∃ e, (A ++ B)[k]? = some e := ⟨_, List.getElem?_eq_getElem (by rw [← HN.out]; exact hlt)⟩
      obtain ⟨g, o, rfl, hgl, c0, c1, c2, c3, c4⟩ := HRd0.out.below HBw.out k e he
      cases put
      · by_cases hkA : k < A.length
        · obtain ⟨hi2, hm⟩ := insd_a HI.out hkA he
          have HI2 := hid hi2
          have hlt2 := HA.out e hm
          unfold lt2 at hlt2
          simp only [] at hlt2
          clear hi2 hm he hkA
          by_cases h1 : e.1.1 = p
          · have q1 : (e.1.1 == p) = true := beq_iff_eq.2 h1
            have r1 : ¬ p < e.1.1 := by omega
            have r2 : ¬ s < e.1.2 := by omega
            clear h1 hlt2
            have hBV : Below (w.heap.size + 1) (w.alloc (enO p s a b c 42)) (wr.alloc (enO e.1.1 e.1.2 e.2.1 e.2.2.1 e.2.2.2 42)) := HB.out.alloc (by have := HB.out.size; simpa using this) _
            obtain ⟨ao3, cap3, w3, hrun, hown3, hfr3, _, _⟩ := app_far (te := 42) under27 info42x rfl (by omega) (by omega) (V := wr.alloc (enO e.1.1 e.1.2 e.2.1 e.2.2.1 e.2.2.2 42)) (HO.out.2.alloc _) (eC e) rfl (eC_one _) (by omega) (by have := HB.out.size; simp at this; simp; omega)
            have e1 : (wr.alloc (enO e.1.1 e.1.2 e.2.1 e.2.2.1 e.2.2.2 42)).heap.size = wr.heap.size + 1 := by simp
            rw [e1] at hrun
            have HRun : Hid ((Builtin.append_ #[27, 27] 27 #[.slice ao2 n cap2, .slice (some ⟨wr.heap.size + 1, 0, none⟩) 1 1]).run Try.prog ((wr.alloc (enO e.1.1 e.1.2 e.2.1 e.2.2.1 e.2.2.2 42)).alloc (enO e.1.1 e.1.2 e.2.1 e.2.2.1 e.2.2.2 42)) = .ok (.slice ao3 (n + 1) cap3) w3) := hrun
            have HB3 : Hid (Below (w.heap.size + 1) (w.alloc (enO p s a b c 42)) w3) := hBV.trans hfr3.below
            have HE : Hid (n + 1 = (D ++ [e]).length ∧ w3.ownsRow (w.heap.size + 1) 42 5 (.slice ao3 (n + 1) cap3) (n + 1) (ecn (D ++ [e]))) := by
              rw [ecn_app, ecn_one, List.length_append, ← HO.out.1]
              exact ⟨rfl, hown3⟩
            clear hrun hown3 hfr3 e1 hBV
            go_wp2_with (at_builtin; refine wpList_app_run rfl (.tmp 44) (.tmp 46) 27 rfl _ _ rfl rfl 27 rfl _ _ HRun.out ?_)
            exact ⟨⟨k + 1, n + 1, ao3, cap3, false, D ++ [e], by omega, by omega, by go_num, rfl, rfl, HI2, HE, HB3⟩, by simp [intOf]; omega⟩
          · have q1 : (e.1.1 == p) = false := beq_false_of_ne h1
            have r1 : ¬ p < e.1.1 := by omega
            clear h1 hlt2
            have hBV : Below (w.heap.size + 1) (w.alloc (enO p s a b c 42)) (wr.alloc (enO e.1.1 e.1.2 e.2.1 e.2.2.1 e.2.2.2 42)) := HB.out.alloc (by have := HB.out.size; simpa using this) _
            obtain ⟨ao3, cap3, w3, hrun, hown3, hfr3, _, _⟩ := app_far (te := 42) under27 info42x rfl (by omega) (by omega) (V := wr.alloc (enO e.1.1 e.1.2 e.2.1 e.2.2.1 e.2.2.2 42)) (HO.out.2.alloc _) (eC e) rfl (eC_one _) (by omega) (by have := HB.out.size; simp at this; simp; omega)
            have e1 : (wr.alloc (enO e.1.1 e.1.2 e.2.1 e.2.2.1 e.2.2.2 42)).heap.size = wr.heap.size + 1 := by simp
            rw [e1] at hrun
            have HRun : Hid ((Builtin.append_ #[27, 27] 27 #[.slice ao2 n cap2, .slice (some ⟨wr.heap.size + 1, 0, none⟩) 1 1]).run Try.prog ((wr.alloc (enO e.1.1 e.1.2 e.2.1 e.2.2.1 e.2.2.2 42)).alloc (enO e.1.1 e.1.2 e.2.1 e.2.2.1 e.2.2.2 42)) = .ok (.slice ao3 (n + 1) cap3) w3) := hrun
            have HB3 : Hid (Below (w.heap.size + 1) (w.alloc (enO p s a b c 42)) w3) := hBV.trans hfr3.below
            have HE : Hid (n + 1 = (D ++ [e]).length ∧ w3.ownsRow (w.heap.size + 1) 42 5 (.slice ao3 (n + 1) cap3) (n + 1) (ecn (D ++ [e]))) := by
              rw [ecn_app, ecn_one, List.length_append, ← HO.out.1]
              exact ⟨rfl, hown3⟩
            clear hrun hown3 hfr3 e1 hBV
            go_wp2_with (at_builtin; refine wpList_app_run rfl (.tmp 44) (.tmp 46) 27 rfl _ _ rfl rfl 27 rfl _ _ HRun.out ?_)
            exact ⟨⟨k + 1, n + 1, ao3, cap3, false, D ++ [e], by omega, by omega, by go_num, rfl, rfl, HI2, HE, HB3⟩, by simp [intOf]; omega⟩
        · have hnk : n ≤ k := insd_n HI.out HO.out.1
          obtain ⟨hi2, hm⟩ := insd_b HI.out hkA he
          have HI2 := hid hi2
          have hlt2 := HBb.out e hm
          unfold lt2 at hlt2
          simp only [] at hlt2
          clear hi2 hm he hkA
          by_cases h1 : e.1.1 = p
          · have q1 : (e.1.1 == p) = true := beq_iff_eq.2 h1
            have r1 : ¬ p < e.1.1 := by omega
            have r2 : s < e.1.2 := by omega
            clear h1 hlt2
            have hBV : Below (w.heap.size + 1) (w.alloc (enO p s a b c 42)) (wr.alloc (enO e.1.1 e.1.2 e.2.1 e.2.2.1 e.2.2.2 42)) := HB.out.alloc (by have := HB.out.size; simpa using this) _
            obtain ⟨ao3, cap3, w3, hrun, hown3, hfr3, hfar3, _⟩ := app_far (te := 42) under27 info42x rfl (by omega) (by omega) (V := wr.alloc (enO e.1.1 e.1.2 e.2.1 e.2.2.1 e.2.2.2 42)) (HO.out.2.alloc _) (eC ((p, s), (a, b, c))) rfl (eC_one _) (by omega) (by have := HB.out.size; simp at this; simp; omega)
            have e1 : (wr.alloc (enO e.1.1 e.1.2 e.2.1 e.2.2.1 e.2.2.2 42)).heap.size = wr.heap.size + 1 := by simp
            rw [e1] at hrun
            have HRun : Hid ((Builtin.append_ #[27, 27] 27 #[.slice ao2 n cap2, .slice (some ⟨wr.heap.size + 1, 0, none⟩) 1 1]).run Try.prog ((wr.alloc (enO e.1.1 e.1.2 e.2.1 e.2.2.1 e.2.2.2 42)).alloc (enO p s a b c 42)) = .ok (.slice ao3 (n + 1) cap3) w3) := hrun
            have hB3 : Below (w.heap.size + 1) (w.alloc (enO p s a b c 42)) w3 := hBV.trans hfr3.below
            have hE3 : w3.heap[wr.heap.size]? = some (enO e.1.1 e.1.2 e.2.1 e.2.2.1 e.2.2.2 42) := (hfar3 _ (by rw [e1]; omega) (fun h => by have := (HO.out.2.lt _ h.symm).2; omega)).trans (heap_last wr _)
            obtain ⟨d0, d1, d2, d3, d4⟩ := five_cells hE3
            obtain ⟨ao4, cap4, w4, hrun4, hown4, hfr4, _, _⟩ := app_far (te := 42) under27 info42x rfl (by omega) (by omega) (V := w3) hown3 (eC e) rfl (eC_one _) (by omega) (by have := hB3.size; simp at this; omega)
            have HRun4 : Hid ((Builtin.append_ #[27, 27] 27 #[.slice ao3 (n + 1) cap3, .slice (some ⟨w3.heap.size, 0, none⟩) 1 1]).run Try.prog (w3.alloc (enO e.1.1 e.1.2 e.2.1 e.2.2.1 e.2.2.2 42)) = .ok (.slice ao4 (n + 1 + 1) cap4) w4) := hrun4
            have HB4 : Hid (Below (w.heap.size + 1) (w.alloc (enO p s a b c 42)) w4) := hB3.trans hfr4.below
            have HE : Hid (n + 1 + 1 = (D ++ [((p, s), (a, b, c))] ++ [e]).length ∧ w4.ownsRow (w.heap.size + 1) 42 5 (.slice ao4 (n + 1 + 1) cap4) (n + 1 + 1) (ecn (D ++ [((p, s), (a, b, c))] ++ [e]))) := by
              rw [ecn_app, ecn_app, ecn_one, ecn_one, List.length_append, List.length_append, ← HO.out.1]
              exact ⟨rfl, hown4⟩
            clear hrun hown3 hfr3 e1 hBV hrun4 hown4 hfr4 hE3 hB3 hfar3
            go_wp2_with (at_builtin; first | refine wpList_app_run rfl (.tmp 40) (.tmp 42) 27 rfl _ _ rfl rfl 27 rfl _ _ HRun.out ?_ | refine wpList_app_run rfl (.tmp 44) (.tmp 46) 27 rfl _ _ rfl rfl 27 rfl _ _ HRun4.out ?_)
            exact ⟨⟨k + 1, n + 1 + 1, ao4, cap4, true, D ++ [((p, s), (a, b, c))] ++ [e], by omega, by omega, by go_num, rfl, rfl, HI2, HE, HB4⟩, by simp [intOf]; omega⟩
          · have r1 : p < e.1.1 := by omega
            clear h1 hlt2
            have hBV : Below (w.heap.size + 1) (w.alloc (enO p s a b c 42)) (wr.alloc (enO e.1.1 e.1.2 e.2.1 e.2.2.1 e.2.2.2 42)) := HB.out.alloc (by have := HB.out.size; simpa using this) _
            obtain ⟨ao3, cap3, w3, hrun, hown3, hfr3, hfar3, _⟩ := app_far (te := 42) under27 info42x rfl (by omega) (by omega) (V := wr.alloc (enO e.1.1 e.1.2 e.2.1 e.2.2.1 e.2.2.2 42)) (HO.out.2.alloc _) (eC ((p, s), (a, b, c))) rfl (eC_one _) (by omega) (by have := HB.out.size; simp at this; simp; omega)
            have e1 : (wr.alloc (enO e.1.1 e.1.2 e.2.1 e.2.2.1 e.2.2.2 42)).heap.size = wr.heap.size + 1 := by simp
            rw [e1] at hrun
            have HRun : Hid ((Builtin.append_ #[27, 27] 27 #[.slice ao2 n cap2, .slice (some ⟨wr.heap.size + 1, 0, none⟩) 1 1]).run Try.prog ((wr.alloc (enO e.1.1 e.1.2 e.2.1 e.2.2.1 e.2.2.2 42)).alloc (enO p s a b c 42)) = .ok (.slice ao3 (n + 1) cap3) w3) := hrun
            have hB3 : Below (w.heap.size + 1) (w.alloc (enO p s a b c 42)) w3 := hBV.trans hfr3.below
            have hE3 : w3.heap[wr.heap.size]? = some (enO e.1.1 e.1.2 e.2.1 e.2.2.1 e.2.2.2 42) := (hfar3 _ (by rw [e1]; omega) (fun h => by have := (HO.out.2.lt _ h.symm).2; omega)).trans (heap_last wr _)
            obtain ⟨d0, d1, d2, d3, d4⟩ := five_cells hE3
            obtain ⟨ao4, cap4, w4, hrun4, hown4, hfr4, _, _⟩ := app_far (te := 42) under27 info42x rfl (by omega) (by omega) (V := w3) hown3 (eC e) rfl (eC_one _) (by omega) (by have := hB3.size; simp at this; omega)
            have HRun4 : Hid ((Builtin.append_ #[27, 27] 27 #[.slice ao3 (n + 1) cap3, .slice (some ⟨w3.heap.size, 0, none⟩) 1 1]).run Try.prog (w3.alloc (enO e.1.1 e.1.2 e.2.1 e.2.2.1 e.2.2.2 42)) = .ok (.slice ao4 (n + 1 + 1) cap4) w4) := hrun4
            have HB4 : Hid (Below (w.heap.size + 1) (w.alloc (enO p s a b c 42)) w4) := hB3.trans hfr4.below
            have HE : Hid (n + 1 + 1 = (D ++ [((p, s), (a, b, c))] ++ [e]).length ∧ w4.ownsRow (w.heap.size + 1) 42 5 (.slice ao4 (n + 1 + 1) cap4) (n + 1 + 1) (ecn (D ++ [((p, s), (a, b, c))] ++ [e]))) := by
              rw [ecn_app, ecn_app, ecn_one, ecn_one, List.length_append, List.length_append, ← HO.out.1]
              exact ⟨rfl, hown4⟩
            clear hrun hown3 hfr3 e1 hBV hrun4 hown4 hfr4 hE3 hB3 hfar3
            go_wp2_with (at_builtin; first | refine wpList_app_run rfl (.tmp 40) (.tmp 42) 27 rfl _ _ rfl rfl 27 rfl _ _ HRun.out ?_ | refine wpList_app_run rfl (.tmp 44) (.tmp 46) 27 rfl _ _ rfl rfl 27 rfl _ _ HRun4.out ?_)
            exact ⟨⟨k + 1, n + 1 + 1, ao4, cap4, true, D ++ [((p, s), (a, b, c))] ++ [e], by omega, by omega, by go_num, rfl, rfl, HI2, HE, HB4⟩, by simp [intOf]; omega⟩
      · have HI2 := hid (insd_c HI.out he)
        clear he
        have hBV : Below (w.heap.size + 1) (w.alloc (enO p s a b c 42)) (wr.alloc (enO e.1.1 e.1.2 e.2.1 e.2.2.1 e.2.2.2 42)) := HB.out.alloc (by have := HB.out.size; simpa using this) _
        obtain ⟨ao3, cap3, w3, hrun, hown3, hfr3, _, _⟩ := app_far (te := 42) under27 info42x rfl (by omega) (by omega) (V := wr.alloc (enO e.1.1 e.1.2 e.2.1 e.2.2.1 e.2.2.2 42)) (HO.out.2.alloc _) (eC e) rfl (eC_one _) (by omega) (by have := HB.out.size; simp at this; simp; omega)
        have e1 : (wr.alloc (enO e.1.1 e.1.2 e.2.1 e.2.2.1 e.2.2.2 42)).heap.size = wr.heap.size + 1 := by simp
        rw [e1] at hrun
        have HRun : Hid ((Builtin.append_ #[27, 27] 27 #[.slice ao2 n cap2, .slice (some ⟨wr.heap.size + 1, 0, none⟩) 1 1]).run Try.prog ((wr.alloc (enO e.1.1 e.1.2 e.2.1 e.2.2.1 e.2.2.2 42)).alloc (enO e.1.1 e.1.2 e.2.1 e.2.2.1 e.2.2.2 42)) = .ok (.slice ao3 (n + 1) cap3) w3) := hrun
        have HB3 : Hid (Below (w.heap.size + 1) (w.alloc (enO p s a b c 42)) w3) := hBV.trans hfr3.below
        have HE : Hid (n + 1 = (D ++ [e]).length ∧ w3.ownsRow (w.heap.size + 1) 42 5 (.slice ao3 (n + 1) cap3) (n + 1) (ecn (D ++ [e]))) := by
          rw [ecn_app, ecn_one, List.length_append, ← HO.out.1]
          exact ⟨rfl, hown3⟩
        clear hrun hown3 hfr3 e1 hBV
        go_wp2_with (at_builtin; refine wpList_app_run rfl (.tmp 44) (.tmp 46) 27 rfl _ _ rfl rfl 27 rfl _ _ HRun.out ?_)
        exact ⟨⟨k + 1, n + 1, ao3, cap3, true, D ++ [e], by omega, by omega, by go_num, rfl, rfl, HI2, HE, HB3⟩, by simp [intOf]; omega⟩
    · have hkN : k = (A ++ B).length := by rw [← HN.out]; omega
      have hbr : wr.heap[r]? = some (.cells #[.slice ao (A ++ B).length cap] 29) := blk_below HBk.out HBw.out
      cases put
      · have HD : Hid (D ++ [((p, s), (a, b, c))] = A ++ ((p, s), (a, b, c)) :: B) := by
          have := HI.out
          rw [hkN] at this
          exact insd_e this
        obtain ⟨ao3, cap3, w3, hrun, hown3, hfr3, _, _⟩ := app_far (te := 42) under27 info42x rfl (by omega) (by omega) (V := wr) HO.out.2 (eC ((p, s), (a, b, c))) rfl (eC_one _) (by omega) (by have := HB.out.size; simp at this; omega)
        have HRun : Hid ((Builtin.append_ #[27, 27] 27 #[.slice ao2 n cap2, .slice (some ⟨wr.heap.size, 0, none⟩) 1 1]).run Try.prog (wr.alloc (enO p s a b c 42)) = .ok (.slice ao3 (n + 1) cap3) w3) := hrun
        have hbr3 : w3.heap[r]? = some (.cells #[.slice ao (A ++ B).length cap] 29) := hfr3.kept _ _ hbr rfl
        have y0 := blk_cell hbr3 0
        have yf := blk_frozen hbr3 0
        have HF : Hid (Rb (w3.setCell ⟨r, 0, none⟩ (.slice ao3 (n + 1) cap3)) base r (A ++ ((p, s), (a, b, c)) :: B)) := by
          refine Rb.set (B := w.heap.size + 1) hlo (.inr ⟨_, hbr3⟩) ?_ ?_ (by omega) (by omega)
          · rw [← HD.out, List.length_append, ← HO.out.1]; rfl
          · rw [← HD.out, ecn_app, ecn_one]; exact hown3
        have HT : Hid (Touch r w (w3.setCell ⟨r, 0, none⟩ (.slice ao3 (n + 1) cap3))) := Touch.setCell (q := r) (p := ⟨r, 0, none⟩) (Touch.of_below (HBw.out.trans (hfr3.below.mono (by omega)))) rfl _
        clear hrun hown3 hfr3 hbr hbr3 hkN
        go_wp2_with (at_builtin; refine wpList_app_run rfl (.tmp 51) (.tmp 53) 27 rfl _ _ rfl rfl 27 rfl _ _ HRun.out ?_)
        go_end0
        exact ⟨rfl, HF.out, HT.out⟩
      · have HD : Hid (D = A ++ ((p, s), (a, b, c)) :: B) := by
          have := HI.out
          rw [hkN] at this
          exact insd_f this
        have y0 := blk_cell hbr 0
        have yf := blk_frozen hbr 0
        have HF : Hid (Rb (wr.setCell ⟨r, 0, none⟩ (.slice ao2 n cap2)) base r (A ++ ((p, s), (a, b, c)) :: B)) := by
          refine Rb.set (B := w.heap.size + 1) hlo (.inr ⟨_, hbr⟩) ?_ ?_ (by omega) (by omega)
          · rw [← HD.out]; exact HO.out.1
          · rw [← HD.out]; exact HO.out.2
        have HT : Hid (Touch r w (wr.setCell ⟨r, 0, none⟩ (.slice ao2 n cap2))) := Touch.setCell (q := r) (p := ⟨r, 0, none⟩) (Touch.of_below HBw.out) rfl _
        clear hbr hkN
        go_wp2_with fail
        go_end0
        exact ⟨rfl, HF.out, HT.out⟩
end Go.Proofs.Ytdgkajhlofpdeaa
