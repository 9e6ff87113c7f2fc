/- The document's object; no statement is proved in this text. -/
import Derived.Test.YtaapiffglfppnaaDc
namespace Go.Proofs.Ytaapiffglfppnaa
open Go.ChangeShapes Go.WideShapes Go.ChangeAt Go.RowKit Go.Deep
attribute [local go_sem ↓] Go.wp_at_zero Go.wp_at_succ

/-- The lowest ID that is none. -/
def FreeI (O : List Op4) (i : Nat) : Prop := O.find? (ko i) = none ∧ ∀ j : Nat, j < i → O.find? (ko j) ≠ none
def ltO (i : Nat) (o : Op4) : Bool := decide (o.1 < (i : Int))
def gtO (i : Nat) (o : Op4) : Bool := decide ((i : Int) < o.1)
def objO (O : List Op4) (i : Nat) (a b : Int) : List Op4 := O.filter (ltO i) ++ [((i : Int), a, b, 0)] ++ O.filter (gtO i)
set_option maxRecDepth 100000 in
set_option maxHeartbeats 3200000 in
theorem robject_ok {w : World} {base r : Nat} {O : List Op4} {S : List Sl3} (a b : Int) (i : Nat) (h : Rt w base r O S) (hlO : O.length ≤ 900) (hi : i ≤ 900) (hf : FreeI O i) : Calls Try.prog 58 #[pq r, i64 a, i64 b] w fun e w' => e = .returned (i64 i) ∧ Rt w' base r (objO O i a b) S ∧ Touch r w w' := by
  have hrl := h.lt
  have hbl := h.lob
  have HR := hid h
  obtain ⟨hn0, hj0⟩ := hf
  have HJ : Hid (∀ W (j : Nat), Rt W base r O S → j < i → ∃ K : Nat, Calls Try.prog 38 #[pq r, i64 j] W fun e w' => e = .returned (i64 K) ∧ Below W.heap.size W w') := fun W j hW hlt => by
    cases hh : O.find? (ko j) with
    | none => exact absurd hh (hj0 j hlt)
    | some s =>
      obtain ⟨K, h1, h2, h3⟩ := find_at hh
      exact ⟨K, rfind_some j K s hW (by omega) h1 h2 h3⟩
  have HNn := hid fun W (hW : Rt W base r O S) => rfind_none i hW (by omega) hn0
  obtain ⟨hlo, ao, cap, av, cs, hbk, hownO, hownS⟩ := h
  have hcapO := own_capK hownO
  have HRo : Hid (Rd4 w ao O) := Rd4.own hownO
  have HSO := hid hownS
  have HBk := hid hbk
  obtain ⟨N, hN⟩ : ∃ N, N = O.length := ⟨_, rfl⟩
  have HN := hid hN
  have HD : Hid (∀ V, Below w.heap.size w V → V.cell? ⟨r, 0, none⟩ = some (.slice ao N cap)) := fun V hb => by
    rw [hN]
    exact blk_cell (blk_below hbk hb) 0
  rw [← hN] at hlO hcapO
  have HL : Hid ((O.filter (ltO i)).length ≤ N) := by rw [hN]; exact List.length_filter_le _ _
  clear hbk hownO hownS hN hn0 hj0
  go_enter Try.func58, Try.ntmps58
  go_wp2_with fail
  go_loopw [7] (fun v wr => ∃ k : Nat, k ≤ i ∧ v = i64 k ∧ Hid (Below w.heap.size w wr)) (fun v _ => i - (intOf v).toNat)
  case atStart => exact ⟨0, by omega, rfl, Below.refl _ _⟩
  case round =>
    obtain ⟨k, hk, rfl, HB⟩ := hrel
    have HRw := hid (HR.out.below HB.out)
    by_cases hlt : k < i
    · obtain ⟨K, hC⟩ := HJ.out wr k HRw.out hlt
      have HC := hid hC
      have hK0 : (0 : Int) ≤ K := by omega
      clear hC
      go_wp2_with fail
      refine HC.out.mono ?_
      rintro e w2 ⟨rfl, hb⟩
      have HB2 : Hid (Below w.heap.size w w2) := HB.out.trans (hb.mono HB.out.size)
      clear hb HC
      go_wp2_with fail
      exact ⟨⟨k + 1, by omega, by go_num, HB2⟩, by simp [intOf]; omega⟩
    · obtain rfl : k = i := by omega
      have HC := hid (HNn.out wr HRw.out)
      clear HJ HNn
      go_wp2_with fail
      refine HC.out.mono ?_
      rintro e w2 ⟨rfl, hb⟩
      have hB2 : Below w.heap.size w w2 := HB.out.trans (hb.mono HB.out.size)
      have s1 := HD.out _ hB2
      have HB2 := hid hB2
      clear hb HC hB2 HRw
      go_wp2_with fail
      go_loopw [8, 24] (fun v u wr => ∃ (j n : Nat) (ao2 : Option Addr) (cap2 : Nat), j ≤ N ∧ n ≤ j ∧ u = i64 j ∧ v = .slice ao2 n cap2 ∧ Hid (n = ((O.take j).filter (ltO k)).length ∧ wr.ownsRow w.heap.size 55 4 (.slice ao2 n cap2) n (ocn ((O.take j).filter (ltO k)))) ∧ Hid (Below w.heap.size w wr)) (fun _ u _ => N - (intOf u).toNat)
      case atStart => exact ⟨0, 0, none, 0, by omega, by omega, rfl, rfl, ⟨rfl, World.ownsRow_nil _ _ _ _⟩, HB2⟩
      case round =>
        obtain ⟨j, n, ao2, cap2, hj, hn, rfl, rfl, HO, HB⟩ := hrel
        by_cases hlt : j < N
        · have hjI : (j : Int) < N := by omega
          obtain ⟨x, hx⟩ : ∃ x, O[j]? = some x := ⟨_, List.getElem?_eq_getElem (by rw [← HN.out]; exact hlt)⟩
          obtain ⟨g, o, rfl, hgl, c0, c1, c2, c3⟩ := HRo.out.below HB.out j x hx
          have HBV : Hid (Below w.heap.size w (wr.alloc (oO x 55))) := HB.out.alloc HB.out.size _
          cases hfx : ltO k x
          · have HE : Hid (n = ((O.take (j + 1)).filter (ltO k)).length ∧ (wr.alloc (oO x 55)).ownsRow w.heap.size 55 4 (.slice ao2 n cap2) n (ocn ((O.take (j + 1)).filter (ltO k)))) := by
              rw [flt_no hx hfx]
              exact ⟨HO.out.1, HO.out.2.alloc _⟩
            have h1 : ¬ x.1 < (k : Int) := of_decide_eq_false hfx
            clear hfx hx
            go_wp2_with fail
            exact ⟨⟨j + 1, n, ao2, cap2, by omega, by omega, by go_num, rfl, HE, HBV⟩, by simp [intOf]; omega⟩
          · obtain ⟨ao3, cap3, w3, hrun, hown3, hfr3, _, _⟩ := app_far (te := 55) uDo iDo rfl (by omega) (by omega) (V := wr.alloc (oO x 55)) (HO.out.2.alloc _) (oC x) rfl (oC_one _) (by omega) HBV.out.size
            have e1 : (wr.alloc (oO x 55)).heap.size = wr.heap.size + 1 := by simp
            rw [e1] at hrun
            have HRun : Hid ((Builtin.append_ #[27, 27] 27 #[.slice ao2 n cap2, .slice (some ⟨wr.heap.size + 1, 0, none⟩) 1 1]).run Try.prog ((wr.alloc (oO x 55)).alloc (oO x 55)) = .ok (.slice ao3 (n + 1) cap3) w3) := hrun
            have HB3 : Hid (Below w.heap.size w w3) := HBV.out.trans hfr3.below
            have HE : Hid (n + 1 = ((O.take (j + 1)).filter (ltO k)).length ∧ w3.ownsRow w.heap.size 55 4 (.slice ao3 (n + 1) cap3) (n + 1) (ocn ((O.take (j + 1)).filter (ltO k)))) := by
              rw [flt_yes hx hfx, ocn_app, ocn_one, List.length_append, ← HO.out.1]
              exact ⟨rfl, hown3⟩
            have h1 : x.1 < (k : Int) := of_decide_eq_true hfx
            clear hrun hown3 hfr3 e1 hx hfx
            go_wp2_with (at_builtin; refine wpList_app_run rfl (.tmp 32) (.tmp 34) 27 rfl _ _ rfl rfl 27 rfl _ _ HRun.out ?_)
            exact ⟨⟨j + 1, n + 1, ao3, cap3, by omega, by omega, by go_num, rfl, HE, HB3⟩, by simp [intOf]; omega⟩
        · have hO1 : n = (O.filter (ltO k)).length ∧ wr.ownsRow w.heap.size 55 4 (.slice ao2 n cap2) n (ocn (O.filter (ltO k))) := by
            have h1 := HO.out
            rw [List.take_of_length_le (by rw [← HN.out]; omega)] at h1
            exact h1
          obtain ⟨ao3, cap3, w3, hrun, hown3, hfr3, _, _⟩ := app_far (te := 55) uDo iDo rfl (by omega) (by omega) (V := wr) hO1.2 (oC ((k : Int), a, b, 0)) rfl (oC_one _) (by omega) HB.out.size
          have HRun : Hid ((Builtin.append_ #[27, 27] 27 #[.slice ao2 n cap2, .slice (some ⟨wr.heap.size, 0, none⟩) 1 1]).run Try.prog (wr.alloc (oO ((k : Int), a, b, 0) 55)) = .ok (.slice ao3 (n + 1) cap3) w3) := hrun
          have hB3 : Below w.heap.size w w3 := HB.out.trans hfr3.below
          have s3 := HD.out _ hB3
          have HB3 := hid hB3
          have HE : Hid (n + 1 = (O.filter (ltO k) ++ [((k : Int), a, b, 0)]).length ∧ w3.ownsRow w.heap.size 55 4 (.slice ao3 (n + 1) cap3) (n + 1) (ocn (O.filter (ltO k) ++ [((k : Int), a, b, 0)]))) := by
            rw [ocn_app, ocn_one, List.length_append, ← hO1.1]
            exact ⟨rfl, hown3⟩
          have hnN : n ≤ N := by rw [hO1.1]; exact HL.out
          clear hrun hown3 hfr3 hO1 hB3
          go_wp2_with (at_builtin; refine wpList_app_run rfl (.tmp 37) (.tmp 42) 27 rfl _ _ rfl rfl 27 rfl _ _ HRun.out ?_)
          go_loopw [8, 49] (fun v u wr => ∃ (j m : Nat) (ao2 : Option Addr) (cap2 : Nat), j ≤ N ∧ m ≤ n + 1 + j ∧ u = i64 j ∧ v = .slice ao2 m cap2 ∧ Hid (m = (O.filter (ltO k) ++ [((k : Int), a, b, 0)] ++ (O.take j).filter (gtO k)).length ∧ wr.ownsRow w.heap.size 55 4 (.slice ao2 m cap2) m (ocn (O.filter (ltO k) ++ [((k : Int), a, b, 0)] ++ (O.take j).filter (gtO k)))) ∧ Hid (Below w.heap.size w wr)) (fun _ u _ => N - (intOf u).toNat)
          case atStart =>
            refine ⟨0, n + 1, ao3, cap3, by omega, by omega, rfl, rfl, ?_, HB3⟩
            rw [Hid, List.take_zero, List.filter_nil, List.append_nil]
            exact HE
          case round =>
            obtain ⟨j, m, ao2, cap2, hj, hm, rfl, rfl, HO, HB⟩ := hrel
            by_cases hlt : j < N
            · have hjI : (j : Int) < N := by omega
              obtain ⟨x, hx⟩ : ∃ x, O[j]? = some x := ⟨_, List.getElem?_eq_getElem (by rw [← HN.out]; exact hlt)⟩
              obtain ⟨g, o, rfl, hgl, c0, c1, c2, c3⟩ := HRo.out.below HB.out j x hx
              have HBV : Hid (Below w.heap.size w (wr.alloc (oO x 55))) := HB.out.alloc HB.out.size _
              cases hfx : gtO k x
              · have HE : Hid (m = (O.filter (ltO k) ++ [((k : Int), a, b, 0)] ++ (O.take (j + 1)).filter (gtO k)).length ∧ (wr.alloc (oO x 55)).ownsRow w.heap.size 55 4 (.slice ao2 m cap2) m (ocn (O.filter (ltO k) ++ [((k : Int), a, b, 0)] ++ (O.take (j + 1)).filter (gtO k)))) := by
                  rw [flt_no hx hfx]
                  exact ⟨HO.out.1, HO.out.2.alloc _⟩
                have h1 : ¬ (k : Int) < x.1 := of_decide_eq_false hfx
                clear hfx hx
                go_wp2_with fail
                exact ⟨⟨j + 1, m, ao2, cap2, by omega, by omega, by go_num, rfl, HE, HBV⟩, by simp [intOf]; omega⟩
              · obtain ⟨ao3, cap3, w3, hrun, hown3, hfr3, _, _⟩ := app_far (te := 55) uDo iDo rfl (by omega) (by omega) (V := wr.alloc (oO x 55)) (HO.out.2.alloc _) (oC x) rfl (oC_one _) (by omega) HBV.out.size
                have e1 : (wr.alloc (oO x 55)).heap.size = wr.heap.size + 1 := by simp
                rw [e1] at hrun
                have HRun : Hid ((Builtin.append_ #[27, 27] 27 #[.slice ao2 m cap2, .slice (some ⟨wr.heap.size + 1, 0, none⟩) 1 1]).run Try.prog ((wr.alloc (oO x 55)).alloc (oO x 55)) = .ok (.slice ao3 (m + 1) cap3) w3) := hrun
                have HB3 : Hid (Below w.heap.size w w3) := HBV.out.trans hfr3.below
                have HE : Hid (m + 1 = (O.filter (ltO k) ++ [((k : Int), a, b, 0)] ++ (O.take (j + 1)).filter (gtO k)).length ∧ w3.ownsRow w.heap.size 55 4 (.slice ao3 (m + 1) cap3) (m + 1) (ocn (O.filter (ltO k) ++ [((k : Int), a, b, 0)] ++ (O.take (j + 1)).filter (gtO k)))) := by
                  rw [flt_yes hx hfx, ← List.append_assoc, ocn_app, ocn_one, List.length_append, ← HO.out.1]
                  exact ⟨rfl, hown3⟩
                have h1 : (k : Int) < x.1 := of_decide_eq_true hfx
                clear hrun hown3 hfr3 e1 hx hfx
                go_wp2_with (at_builtin; refine wpList_app_run rfl (.tmp 57) (.tmp 59) 27 rfl _ _ rfl rfl 27 rfl _ _ HRun.out ?_)
                exact ⟨⟨j + 1, m + 1, ao3, cap3, by omega, by omega, by go_num, rfl, HE, HB3⟩, by simp [intOf]; omega⟩
            · have hbr := blk_below HBk.out HB.out
              have y0 := blk_cell hbr 0
              have yf := blk_frozen hbr 0
              have HF : Hid (Rt (wr.setCell ⟨r, 0, none⟩ (.slice ao2 m cap2)) base r (objO O k a b) S) := by
                have h1 := HO.out
                rw [List.take_of_length_le (by rw [← HN.out]; omega)] at h1
                exact Rt.setO (B := w.heap.size) hlo hbr (own_keep1 HSO.out fun q hq => HB.out.block q (HSO.out.lt q hq).2) h1.1 h1.2 hbl hrl
              have HT : Hid (Touch r w (wr.setCell ⟨r, 0, none⟩ (.slice ao2 m cap2))) := Touch.setCell (q := r) (p := ⟨r, 0, none⟩) (Touch.of_below HB.out) rfl _
              clear hbr
              go_wp2_with fail
              go_ret
              exact ⟨rfl, HF.out, HT.out⟩
end Go.Proofs.Ytaapiffglfppnaa
