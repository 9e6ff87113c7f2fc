/- The document's Insert; no statement is proved in this text. -/
import Derived.Test.YtaapiffglfppnaaDa
namespace Go.Proofs.Ytaapiffglfppnaa
open Go.ChangeShapes Go.WideShapes Go.ChangeAt Go.RowKit Go.Deep
attribute [local go_sem ↓] Go.wp_at_zero Go.wp_at_succ


def InsD (A B : List Sl3) (x : Sl3) (k : Nat) (put : Bool) (D : List Sl3) : Prop := (put = false ∧ k ≤ A.length ∧ D = A.take k) ∨ (put = true ∧ A.length < k ∧ D = A ++ x :: B.take (k - A.length))
theorem insd_a {A B : List Sl3} {x : Sl3} {k : Nat} {D : List Sl3} {e : Sl3} (h : InsD A B x k false D) (hk : k < A.length) (he : (A ++ B)[k]? = some e) : InsD A B x (k + 1) false (D ++ [e]) ∧ e ∈ A := by
  rcases h with ⟨_, _, rfl⟩ | ⟨h, _⟩
  · rw [List.getElem?_append_left hk] at he
    exact ⟨.inl ⟨rfl, by omega, (takeL he).symm⟩, List.mem_of_getElem? he⟩
  · cases h
theorem insd_b {A B : List Sl3} {x : Sl3} {k : Nat} {D : List Sl3} {e : Sl3} (h : InsD A B x k false D) (hk : ¬ k < A.length) (he : (A ++ B)[k]? = some e) : InsD A B x (k + 1) true (D ++ [x] ++ [e]) ∧ e ∈ B := by
  rcases h with ⟨_, hk2, rfl⟩ | ⟨h, _⟩
  · rw [List.getElem?_append_right (by omega)] at he
    refine ⟨.inr ⟨rfl, by omega, ?_⟩, List.mem_of_getElem? he⟩
    have hkA : k = A.length := by omega
    have h0 : k - A.length = 0 := by omega
    rw [h0] at he
    have h1 : k + 1 - A.length = 0 + 1 := by omega
    rw [h1, takeL he, List.take_of_length_le (by omega)]
    simp
  · cases h
theorem insd_n {A B : List Sl3} {x : Sl3} {k n : Nat} {D : List Sl3} (h : InsD A B x k false D) (hn : n = D.length) : n ≤ k := by
  rcases h with ⟨_, _, rfl⟩ | ⟨h, _⟩
  · rw [hn, List.length_take]
    omega
  · cases h
theorem insd_c {A B : List Sl3} {x : Sl3} {k : Nat} {D : List Sl3} {e : Sl3} (h : InsD A B x k true D) (he : (A ++ B)[k]? = some e) : InsD A B x (k + 1) true (D ++ [e]) := by
  rcases h with ⟨h, _⟩ | ⟨_, hk, rfl⟩
  · cases h
  · rw [List.getElem?_append_right (by omega)] at he
    refine .inr ⟨rfl, by omega, ?_⟩
    have h1 : k + 1 - A.length = (k - A.length) + 1 := by omega
    rw [h1, takeL he]
    simp
theorem insd_e {A B : List Sl3} {x : Sl3} {D : List Sl3} (h : InsD A B x (A ++ B).length false D) : D ++ [x] = A ++ x :: B := by
  rcases h with ⟨_, hk, rfl⟩ | ⟨h, _⟩
  · rw [List.length_append] at hk
    have hB : B = [] := List.eq_nil_of_length_eq_zero (by omega)
    subst hB
    rw [List.take_of_length_le (by simp)]
  · cases h
theorem insd_f {A B : List Sl3} {x : Sl3} {D : List Sl3} (h : InsD A B x (A ++ B).length true D) : D = A ++ x :: B := by
  rcases h with ⟨h, _⟩ | ⟨_, hk, rfl⟩
  · cases h
  · rw [List.take_of_length_le (by rw [List.length_append]; omega)]
theorem Touch.fr30 {w w' : World} {base r : Nat} {O : List Op4} {S : List Sl3} (h : Rt w base r O S) (ht : Touch r w w') : Fr base [30] w w' := by
  obtain ⟨h0, a1, c1, a2, c2, h1, _⟩ := h
  exact Fr.of_touch ht h1 rfl h0
def lt2 (a b : Int × Int) : Prop := a.1 < b.1 ∨ a.1 = b.1 ∧ a.2 < b.2
abbrev pk (s : Sl3) : Int × Int := (s.1, s.2.1)
theorem Rt.setS {V : World} {base r B n cap : Nat} {ao : Option Addr} {O : List Op4} {L : List Sl3} {a1 : Option Addr} {c1 : Nat} {v : Value} (h0 : base ≤ r) (hV : V.heap[r]? = some (.cells #[.slice a1 O.length c1, v] 30)) (hO : V.ownsRow base 55 4 (.slice a1 O.length c1) O.length (ocn O)) (hn : n = L.length) (ho : V.ownsRow B 57 3 (.slice ao n cap) n (lcn L)) (hB : base ≤ B) (hr : r < B) : Rt (V.setCell ⟨r, 1, none⟩ (.slice ao n cap)) base r O L := by
  subst hn
  refine ⟨h0, a1, c1, ao, cap, heap_setCell_same V r 1 #[.slice a1 O.length c1, v] 30 _ hV, own_keep hO fun k C hk => ?_, own_keep1 (own_low ho hB) fun k hk => Below.heap_setCell _ _ _ _ (by have := (ho.lt k hk).1; show k ≠ r; omega)⟩
  have hne : k ≠ r := by
    rintro rfl
    rw [hV] at hk
    simp at hk
  exact (Below.heap_setCell _ _ _ _ (show k ≠ r from hne)).trans hk
theorem Rt.setO {V : World} {base r B n cap : Nat} {ao : Option Addr} {O : List Op4} {L : List Sl3} {a2 : Option Addr} {c2 : Nat} {v : Value} (h0 : base ≤ r) (hV : V.heap[r]? = some (.cells #[v, .slice a2 L.length c2] 30)) (hS : V.ownsRow base 57 3 (.slice a2 L.length c2) L.length (lcn L)) (hn : n = O.length) (ho : V.ownsRow B 55 4 (.slice ao n cap) n (ocn O)) (hB : base ≤ B) (hr : r < B) : Rt (V.setCell ⟨r, 0, none⟩ (.slice ao n cap)) base r O L := by
  subst hn
  refine ⟨h0, ao, cap, a2, c2, heap_setCell_same V r 0 #[v, .slice a2 L.length c2] 30 _ hV, own_keep1 (own_low ho hB) fun k hk => Below.heap_setCell _ _ _ _ (by have := (ho.lt k hk).1; show k ≠ r; omega), own_keep hS fun k C hk => ?_⟩
  have hne : k ≠ r := by
    rintro rfl
    rw [hV] at hk
    simp at hk
  exact (Below.heap_setCell _ _ _ _ (show k ≠ r from hne)).trans hk
theorem three_cells {W : World} {b : Nat} {p s a : Value} {t : TypeId} (h : W.heap[b]? = some (.cells #[p, s, a] t)) : W.cell? ⟨b, 0, none⟩ = some p ∧ W.cell? ⟨b, 1, none⟩ = some s ∧ W.cell? ⟨b, 2, none⟩ = some a := ⟨blk_cell h 0, blk_cell h 1, blk_cell h 2⟩
set_option maxRecDepth 100000 in
set_option maxHeartbeats 1600000 in
theorem rins_ok {w : World} {base r : Nat} {A B : List Sl3} {O : List Op4} (h : Rt w base r O (A ++ B)) (hl : (A ++ B).length ≤ 900) (x : Sl3) (hA : ∀ e ∈ A, lt2 (pk e) (pk x)) (hB : ∀ e ∈ B, lt2 (pk x) (pk e)) : Calls Try.prog 57 #[pq r, lv x] w fun e w' => e = .returned (.tuple #[]) ∧ Rt w' base r O (A ++ x :: B) ∧ Touch r w w' := by
  have hrl := h.lt
  obtain ⟨hlo, a1, cc1, ao, cap, hbk, hownO, hown⟩ := h
  have hcap := own_capK hown
  have HRd0 : Hid (Rd3 w ao (A ++ B)) := Rd3.own hown
  have HOO := hid hownO
  have HBk := hid hbk
  have b0 : w.cell? ⟨r, 1, none⟩ = some (.slice ao (A ++ B).length cap) := blk_cell hbk 1
  obtain ⟨N, hN⟩ : ∃ N, N = (A ++ B).length := ⟨_, rfl⟩
  have HN := hid hN
  rw [← hN] at b0 hl hcap
  have b1 : (w.alloc (lO x 57)).cell? ⟨r, 1, none⟩ = some (.slice ao N cap) := cell_keep b0 _
  have HA := hid hA
  have HBb := hid hB
  have HX0 := hid (heap_last w (lO x 57))
  clear hbk hown hownO hN hA hB
  go_enter Try.func57, Try.ntmps57
  go_wp2_with fail
  go_loopw [4, 5, 13] (fun v q i wr => ∃ (k n : Nat) (ao2 : Option Addr) (cap2 : Nat) (put : Bool) (D : List Sl3), k ≤ N ∧ n ≤ k + 1 ∧ i = i64 k ∧ v = .slice ao2 n cap2 ∧ q = .bool put ∧ Hid (InsD A B x k put D) ∧ Hid (n = D.length ∧ wr.ownsRow (w.heap.size + 1) 57 3 (.slice ao2 n cap2) n (lcn D)) ∧ Hid (Below (w.heap.size + 1) (w.alloc (lO x 57)) wr)) (fun _ _ i _ => N - (intOf i).toNat)
  case atStart => exact ⟨0, 0, none, 0, false, [], by omega, by omega, rfl, rfl, rfl, .inl ⟨rfl, by omega, by simp⟩, ⟨rfl, World.ownsRow_nil _ _ _ _⟩, Below.refl _ _⟩
  case round =>
    obtain ⟨k, n, ao2, cap2, put, D, hk, hn, rfl, rfl, rfl, HI, HO, HB⟩ := hrel
    have hBw : Below w.heap.size w wr := (below_one w _).trans (HB.out.mono (by omega))
    have HBw := hid hBw
    have hX : wr.heap[w.heap.size]? = some (lO x 57) := (HB.out.block _ (by omega)).trans HX0.out
    obtain ⟨x0, x1, x2⟩ := three_cells hX
    have hxl : w.heap.size < wr.heap.size := blk_lt hX
    clear hBw hX
    by_cases hlt : k < N
    · have hkI : (k : Int) < N := by omega
      obtain ⟨e, he⟩ : ∃ e, (A ++ B)[k]? = some e := ⟨_, List.getElem?_eq_getElem (by rw [← HN.out]; exact hlt)⟩
      obtain ⟨g, o, rfl, hgl, c0, c1, c2⟩ := HRd0.out.below HBw.out k e he
      cases put
      · by_cases hkA : k < A.length
        · obtain ⟨hi2, hm⟩ := insd_a HI.out hkA he
          have HI2 := hid hi2
          have hlt2 := HA.out e hm
          unfold lt2 pk at hlt2
          simp only [] at hlt2
          clear hi2 hm he hkA
          by_cases h1 : e.1 = x.1
          · have q1 : (e.1 == x.1) = true := beq_iff_eq.2 h1
            have r1 : ¬ x.1 < e.1 := by omega
            have r2 : ¬ x.2.1 < e.2.1 := by omega
            clear h1 hlt2
            have hBV : Below (w.heap.size + 1) (w.alloc (lO x 57)) (wr.alloc (lO e 57)) := HB.out.alloc (by have := HB.out.size; simpa using this) _
            obtain ⟨ao3, cap3, w3, hrun, hown3, hfr3, _, _⟩ := app_far (te := 57) uDl iDl rfl (by omega) (by omega) (V := wr.alloc (lO e 57)) (HO.out.2.alloc _) (lC e) rfl (lC_one _) (by omega) (by have := HB.out.size; simp at this; simp; omega)
            have e1 : (wr.alloc (lO e 57)).heap.size = wr.heap.size + 1 := by simp
            rw [e1] at hrun
            have HRun : Hid ((Builtin.append_ #[28, 28] 28 #[.slice ao2 n cap2, .slice (some ⟨wr.heap.size + 1, 0, none⟩) 1 1]).run Try.prog ((wr.alloc (lO e 57)).alloc (lO e 57)) = .ok (.slice ao3 (n + 1) cap3) w3) := hrun
            have HB3 : Hid (Below (w.heap.size + 1) (w.alloc (lO x 57)) w3) := hBV.trans hfr3.below
            have HE : Hid (n + 1 = (D ++ [e]).length ∧ w3.ownsRow (w.heap.size + 1) 57 3 (.slice ao3 (n + 1) cap3) (n + 1) (lcn (D ++ [e]))) := by
              rw [lcn_app, lcn_one, List.length_append, ← HO.out.1]
              exact ⟨rfl, hown3⟩
            clear hrun hown3 hfr3 e1 hBV
            go_wp2_with (at_builtin; refine wpList_app_run rfl (.tmp 44) (.tmp 46) 28 rfl _ _ rfl rfl 28 rfl _ _ HRun.out ?_)
            exact ⟨⟨k + 1, n + 1, ao3, cap3, false, D ++ [e], by omega, by omega, by go_num, rfl, rfl, HI2, HE, HB3⟩, by simp [intOf]; omega⟩
          · have q1 : (e.1 == x.1) = false := beq_false_of_ne h1
            have r1 : ¬ x.1 < e.1 := by omega
            clear h1 hlt2
            have hBV : Below (w.heap.size + 1) (w.alloc (lO x 57)) (wr.alloc (lO e 57)) := HB.out.alloc (by have := HB.out.size; simpa using this) _
            obtain ⟨ao3, cap3, w3, hrun, hown3, hfr3, _, _⟩ := app_far (te := 57) uDl iDl rfl (by omega) (by omega) (V := wr.alloc (lO e 57)) (HO.out.2.alloc _) (lC e) rfl (lC_one _) (by omega) (by have := HB.out.size; simp at this; simp; omega)
            have e1 : (wr.alloc (lO e 57)).heap.size = wr.heap.size + 1 := by simp
            rw [e1] at hrun
            have HRun : Hid ((Builtin.append_ #[28, 28] 28 #[.slice ao2 n cap2, .slice (some ⟨wr.heap.size + 1, 0, none⟩) 1 1]).run Try.prog ((wr.alloc (lO e 57)).alloc (lO e 57)) = .ok (.slice ao3 (n + 1) cap3) w3) := hrun
            have HB3 : Hid (Below (w.heap.size + 1) (w.alloc (lO x 57)) w3) := hBV.trans hfr3.below
            have HE : Hid (n + 1 = (D ++ [e]).length ∧ w3.ownsRow (w.heap.size + 1) 57 3 (.slice ao3 (n + 1) cap3) (n + 1) (lcn (D ++ [e]))) := by
              rw [lcn_app, lcn_one, List.length_append, ← HO.out.1]
              exact ⟨rfl, hown3⟩
            clear hrun hown3 hfr3 e1 hBV
            go_wp2_with (at_builtin; refine wpList_app_run rfl (.tmp 44) (.tmp 46) 28 rfl _ _ rfl rfl 28 rfl _ _ HRun.out ?_)
            exact ⟨⟨k + 1, n + 1, ao3, cap3, false, D ++ [e], by omega, by omega, by go_num, rfl, rfl, HI2, HE, HB3⟩, by simp [intOf]; omega⟩
        · have hnk : n ≤ k := insd_n HI.out HO.out.1
          obtain ⟨hi2, hm⟩ := insd_b HI.out hkA he
          have HI2 := hid hi2
          have hlt2 := HBb.out e hm
          unfold lt2 pk at hlt2
          simp only [] at hlt2
          clear hi2 hm he hkA
          by_cases h1 : e.1 = x.1
          · have q1 : (e.1 == x.1) = true := beq_iff_eq.2 h1
            have r1 : ¬ x.1 < e.1 := by omega
            have r2 : x.2.1 < e.2.1 := by omega
            clear h1 hlt2
            have hBV : Below (w.heap.size + 1) (w.alloc (lO x 57)) (wr.alloc (lO e 57)) := HB.out.alloc (by have := HB.out.size; simpa using this) _
            obtain ⟨ao3, cap3, w3, hrun, hown3, hfr3, hfar3, _⟩ := app_far (te := 57) uDl iDl rfl (by omega) (by omega) (V := wr.alloc (lO e 57)) (HO.out.2.alloc _) (lC x) rfl (lC_one _) (by omega) (by have := HB.out.size; simp at this; simp; omega)
            have e1 : (wr.alloc (lO e 57)).heap.size = wr.heap.size + 1 := by simp
            rw [e1] at hrun
            have HRun : Hid ((Builtin.append_ #[28, 28] 28 #[.slice ao2 n cap2, .slice (some ⟨wr.heap.size + 1, 0, none⟩) 1 1]).run Try.prog ((wr.alloc (lO e 57)).alloc (lO x 57)) = .ok (.slice ao3 (n + 1) cap3) w3) := hrun
            have hB3 : Below (w.heap.size + 1) (w.alloc (lO x 57)) w3 := hBV.trans hfr3.below
            have hE3 : w3.heap[wr.heap.size]? = some (lO e 57) := (hfar3 _ (by rw [e1]; omega) (fun h => by have := (HO.out.2.lt _ h.symm).2; omega)).trans (heap_last wr _)
            obtain ⟨d0, d1, d2⟩ := three_cells hE3
            obtain ⟨ao4, cap4, w4, hrun4, hown4, hfr4, _, _⟩ := app_far (te := 57) uDl iDl rfl (by omega) (by omega) (V := w3) hown3 (lC e) rfl (lC_one _) (by omega) (by have := hB3.size; simp at this; omega)
            have HRun4 : Hid ((Builtin.append_ #[28, 28] 28 #[.slice ao3 (n + 1) cap3, .slice (some ⟨w3.heap.size, 0, none⟩) 1 1]).run Try.prog (w3.alloc (lO e 57)) = .ok (.slice ao4 (n + 1 + 1) cap4) w4) := hrun4
            have HB4 : Hid (Below (w.heap.size + 1) (w.alloc (lO x 57)) w4) := hB3.trans hfr4.below
            have HE : Hid (n + 1 + 1 = (D ++ [x] ++ [e]).length ∧ w4.ownsRow (w.heap.size + 1) 57 3 (.slice ao4 (n + 1 + 1) cap4) (n + 1 + 1) (lcn (D ++ [x] ++ [e]))) := by
              rw [lcn_app, lcn_app, lcn_one, lcn_one, List.length_append, List.length_append, ← HO.out.1]
              exact ⟨rfl, hown4⟩
            clear hrun hown3 hfr3 e1 hBV hrun4 hown4 hfr4 hE3 hB3 hfar3
            go_wp2_with (at_builtin; first | refine wpList_app_run rfl (.tmp 40) (.tmp 42) 28 rfl _ _ rfl rfl 28 rfl _ _ HRun.out ?_ | refine wpList_app_run rfl (.tmp 44) (.tmp 46) 28 rfl _ _ rfl rfl 28 rfl _ _ HRun4.out ?_)
            exact ⟨⟨k + 1, n + 1 + 1, ao4, cap4, true, D ++ [x] ++ [e], by omega, by omega, by go_num, rfl, rfl, HI2, HE, HB4⟩, by simp [intOf]; omega⟩
          · have r1 : x.1 < e.1 := by omega
            clear h1 hlt2
            have hBV : Below (w.heap.size + 1) (w.alloc (lO x 57)) (wr.alloc (lO e 57)) := HB.out.alloc (by have := HB.out.size; simpa using this) _
            obtain ⟨ao3, cap3, w3, hrun, hown3, hfr3, hfar3, _⟩ := app_far (te := 57) uDl iDl rfl (by omega) (by omega) (V := wr.alloc (lO e 57)) (HO.out.2.alloc _) (lC x) rfl (lC_one _) (by omega) (by have := HB.out.size; simp at this; simp; omega)
            have e1 : (wr.alloc (lO e 57)).heap.size = wr.heap.size + 1 := by simp
            rw [e1] at hrun
            have HRun : Hid ((Builtin.append_ #[28, 28] 28 #[.slice ao2 n cap2, .slice (some ⟨wr.heap.size + 1, 0, none⟩) 1 1]).run Try.prog ((wr.alloc (lO e 57)).alloc (lO x 57)) = .ok (.slice ao3 (n + 1) cap3) w3) := hrun
            have hB3 : Below (w.heap.size + 1) (w.alloc (lO x 57)) w3 := hBV.trans hfr3.below
            have hE3 : w3.heap[wr.heap.size]? = some (lO e 57) := (hfar3 _ (by rw [e1]; omega) (fun h => by have := (HO.out.2.lt _ h.symm).2; omega)).trans (heap_last wr _)
            obtain ⟨d0, d1, d2⟩ := three_cells hE3
            obtain ⟨ao4, cap4, w4, hrun4, hown4, hfr4, _, _⟩ := app_far (te := 57) uDl iDl rfl (by omega) (by omega) (V := w3) hown3 (lC e) rfl (lC_one _) (by omega) (by have := hB3.size; simp at this; omega)
            have HRun4 : Hid ((Builtin.append_ #[28, 28] 28 #[.slice ao3 (n + 1) cap3, .slice (some ⟨w3.heap.size, 0, none⟩) 1 1]).run Try.prog (w3.alloc (lO e 57)) = .ok (.slice ao4 (n + 1 + 1) cap4) w4) := hrun4
            have HB4 : Hid (Below (w.heap.size + 1) (w.alloc (lO x 57)) w4) := hB3.trans hfr4.below
            have HE : Hid (n + 1 + 1 = (D ++ [x] ++ [e]).length ∧ w4.ownsRow (w.heap.size + 1) 57 3 (.slice ao4 (n + 1 + 1) cap4) (n + 1 + 1) (lcn (D ++ [x] ++ [e]))) := by
              rw [lcn_app, lcn_app, lcn_one, lcn_one, List.length_append, List.length_append, ← HO.out.1]
              exact ⟨rfl, hown4⟩
            clear hrun hown3 hfr3 e1 hBV hrun4 hown4 hfr4 hE3 hB3 hfar3
            go_wp2_with (at_builtin; first | refine wpList_app_run rfl (.tmp 40) (.tmp 42) 28 rfl _ _ rfl rfl 28 rfl _ _ HRun.out ?_ | refine wpList_app_run rfl (.tmp 44) (.tmp 46) 28 rfl _ _ rfl rfl 28 rfl _ _ HRun4.out ?_)
            exact ⟨⟨k + 1, n + 1 + 1, ao4, cap4, true, D ++ [x] ++ [e], by omega, by omega, by go_num, rfl, rfl, HI2, HE, HB4⟩, by simp [intOf]; omega⟩
      · have HI2 := hid (insd_c HI.out he)
        clear he
        have hBV : Below (w.heap.size + 1) (w.alloc (lO x 57)) (wr.alloc (lO e 57)) := HB.out.alloc (by have := HB.out.size; simpa using this) _
        obtain ⟨ao3, cap3, w3, hrun, hown3, hfr3, _, _⟩ := app_far (te := 57) uDl iDl rfl (by omega) (by omega) (V := wr.alloc (lO e 57)) (HO.out.2.alloc _) (lC e) rfl (lC_one _) (by omega) (by have := HB.out.size; simp at this; simp; omega)
        have e1 : (wr.alloc (lO e 57)).heap.size = wr.heap.size + 1 := by simp
        rw [e1] at hrun
        have HRun : Hid ((Builtin.append_ #[28, 28] 28 #[.slice ao2 n cap2, .slice (some ⟨wr.heap.size + 1, 0, none⟩) 1 1]).run Try.prog ((wr.alloc (lO e 57)).alloc (lO e 57)) = .ok (.slice ao3 (n + 1) cap3) w3) := hrun
        have HB3 : Hid (Below (w.heap.size + 1) (w.alloc (lO x 57)) w3) := hBV.trans hfr3.below
        have HE : Hid (n + 1 = (D ++ [e]).length ∧ w3.ownsRow (w.heap.size + 1) 57 3 (.slice ao3 (n + 1) cap3) (n + 1) (lcn (D ++ [e]))) := by
          rw [lcn_app, lcn_one, List.length_append, ← HO.out.1]
          exact ⟨rfl, hown3⟩
        clear hrun hown3 hfr3 e1 hBV
        go_wp2_with (at_builtin; refine wpList_app_run rfl (.tmp 44) (.tmp 46) 28 rfl _ _ rfl rfl 28 rfl _ _ HRun.out ?_)
        exact ⟨⟨k + 1, n + 1, ao3, cap3, true, D ++ [e], by omega, by omega, by go_num, rfl, rfl, HI2, HE, HB3⟩, by simp [intOf]; omega⟩
    · have hkN : k = (A ++ B).length := by rw [← HN.out]; omega
      have hbr : wr.heap[r]? = some (.cells #[.slice a1 O.length cc1, .slice ao (A ++ B).length cap] 30) := blk_below HBk.out HBw.out
      cases put
      · have HD : Hid (D ++ [x] = A ++ x :: B) := by
          have := HI.out
          rw [hkN] at this
          exact insd_e this
        obtain ⟨ao3, cap3, w3, hrun, hown3, hfr3, _, _⟩ := app_far (te := 57) uDl iDl rfl (by omega) (by omega) (V := wr) HO.out.2 (lC x) rfl (lC_one _) (by omega) (by have := HB.out.size; simp at this; omega)
        have HRun : Hid ((Builtin.append_ #[28, 28] 28 #[.slice ao2 n cap2, .slice (some ⟨wr.heap.size, 0, none⟩) 1 1]).run Try.prog (wr.alloc (lO x 57)) = .ok (.slice ao3 (n + 1) cap3) w3) := hrun
        have hbr3 : w3.heap[r]? = some (.cells #[.slice a1 O.length cc1, .slice ao (A ++ B).length cap] 30) := hfr3.kept _ _ hbr rfl
        have y0 := blk_cell hbr3 1
        have yf := blk_frozen hbr3 1
        have HF : Hid (Rt (w3.setCell ⟨r, 1, none⟩ (.slice ao3 (n + 1) cap3)) base r O (A ++ x :: B)) := by
          refine Rt.setS (B := w.heap.size + 1) hlo hbr3 (own_keep (own_keep1 HOO.out fun k hk => HBw.out.block k (HOO.out.lt k hk).2) fun k _ hk => hfr3.kept k _ hk rfl) ?_ ?_ (by omega) (by omega)
          · rw [← HD.out, List.length_append, ← HO.out.1]; rfl
          · rw [← HD.out, lcn_app, lcn_one]; exact hown3
        have HT : Hid (Touch r w (w3.setCell ⟨r, 1, none⟩ (.slice ao3 (n + 1) cap3))) := Touch.setCell (q := r) (p := ⟨r, 1, none⟩) (Touch.of_below (HBw.out.trans (hfr3.below.mono (by omega)))) rfl _
        clear hrun hown3 hfr3 hbr hbr3 hkN
        go_wp2_with (at_builtin; refine wpList_app_run rfl (.tmp 51) (.tmp 53) 28 rfl _ _ rfl rfl 28 rfl _ _ HRun.out ?_)
        go_end0
        exact ⟨rfl, HF.out, HT.out⟩
      · have HD : Hid (D = A ++ x :: B) := by
          have := HI.out
          rw [hkN] at this
          exact insd_f this
        have y0 := blk_cell hbr 1
        have yf := blk_frozen hbr 1
        have HF : Hid (Rt (wr.setCell ⟨r, 1, none⟩ (.slice ao2 n cap2)) base r O (A ++ x :: B)) := by
          refine Rt.setS (B := w.heap.size + 1) hlo hbr (own_keep1 HOO.out fun k hk => HBw.out.block k (HOO.out.lt k hk).2) ?_ ?_ (by omega) (by omega)
          · rw [← HD.out]; exact HO.out.1
          · rw [← HD.out]; exact HO.out.2
        have HT : Hid (Touch r w (wr.setCell ⟨r, 1, none⟩ (.slice ao2 n cap2))) := Touch.setCell (q := r) (p := ⟨r, 1, none⟩) (Touch.of_below HBw.out) rfl _
        clear hbr hkN
        go_wp2_with fail
        go_end0
        exact ⟨rfl, HF.out, HT.out⟩
end Go.Proofs.Ytaapiffglfppnaa
