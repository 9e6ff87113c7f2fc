/- The document's sweep; no statement is proved in this text. -/
import Derived.Test.YtaapiffglfppnaaDb
namespace Go.Proofs.Ytaapiffglfppnaa
open Go.ChangeShapes Go.WideShapes Go.ChangeAt Go.RowKit Go.Deep
attribute [local go_sem ↓] Go.wp_at_zero Go.wp_at_succ

/-- Objects that a slot names. -/
def swF (S : List Sl3) (o : Op4) : Bool := S.any fun s => s.2.2 == o.1
def swO (O : List Op4) (S : List Sl3) : List Op4 := O.filter (swF S)
theorem swF_succ {S : List Sl3} {o : Op4} {j : Nat} {s : Sl3} (h : S[j]? = some s) : swF (S.take (j + 1)) o = (swF (S.take j) o || s.2.2 == o.1) := by
  unfold swF
  rw [takeL h, List.any_append]
  simp
set_option maxRecDepth 100000 in
set_option maxHeartbeats 3200000 in
theorem rsweep_ok {w : World} {base r : Nat} {O : List Op4} {S : List Sl3} (h : Rt w base r O S) (hlO : O.length ≤ 900) (hlS : S.length ≤ 900) : Calls Try.prog 44 #[pq r] w fun e w' => e = .returned (.tuple #[]) ∧ Rt w' base r (swO O S) S ∧ Touch r w w' := by
  have hrl := h.lt
  have hbl := h.lob
  obtain ⟨hlo, ao, cap, av, cs, hbk, hownO, hownS⟩ := h
  have hcapO := own_capK hownO
  have hcapS := own_capK hownS
  have HRo : Hid (Rd4 w ao O) := Rd4.own hownO
  have HRs : Hid (Rd3 w av S) := Rd3.own hownS
  have HSO := hid hownS
  have HBk := hid hbk
  have d0 : w.cell? ⟨r, 0, none⟩ = some (.slice ao O.length cap) := blk_cell hbk 0
  obtain ⟨N, hN⟩ : ∃ N, N = O.length := ⟨_, rfl⟩
  obtain ⟨M, hM⟩ : ∃ M, M = S.length := ⟨_, rfl⟩
  have HN := hid hN
  have HM := hid hM
  have HD : Hid (∀ V, Below w.heap.size w V → V.cell? ⟨r, 1, none⟩ = some (.slice av M cs)) := fun V hb => by
    rw [hM]
    exact blk_cell (blk_below hbk hb) 1
  rw [← hN] at d0 hlO hcapO
  rw [← hM] at hlS hcapS
  clear hbk hownO hownS hN hM
  go_enter Try.func44, Try.ntmps44
  go_wp2_with fail
  go_loopw [2, 13] (fun v i wr => ∃ (k n : Nat) (ao2 : Option Addr) (cap2 : Nat), k ≤ N ∧ n ≤ k ∧ i = i64 k ∧ v = .slice ao2 n cap2 ∧ Hid (n = ((O.take k).filter (swF S)).length ∧ wr.ownsRow w.heap.size 55 4 (.slice ao2 n cap2) n (ocn ((O.take k).filter (swF S)))) ∧ Hid (Below w.heap.size w wr)) (fun _ i _ => N - (intOf i).toNat)
  case atStart => exact ⟨0, 0, none, 0, by omega, by omega, rfl, rfl, ⟨rfl, World.ownsRow_nil _ _ _ _⟩, Below.refl _ _⟩
  case round =>
    obtain ⟨k, n, ao2, cap2, hk, hn, rfl, rfl, HO, HB⟩ := hrel
    obtain ⟨wo, hwo⟩ : ∃ wo, wo = wr := ⟨_, rfl⟩
    subst hwo
    by_cases hlt : k < N
    · have hkI : (k : Int) < N := by omega
      obtain ⟨x, hx⟩ : ∃ x, O[k]? = some x := ⟨_, List.getElem?_eq_getElem (by rw [← HN.out]; exact hlt)⟩
      have HXk := hid hx
      obtain ⟨g, o, rfl, hgl, c0, c1, c2, c3⟩ := HRo.out.below HB.out k x hx
      have hBV : Below w.heap.size w (wo.alloc (oO x 55)) := HB.out.alloc HB.out.size _
      have s1 := HD.out _ hBV
      have HBV := hid hBV
      have HX0 := hid (heap_last wo (oO x 55))
      have hsz := HB.out.size
      clear hx hBV
      go_wp2_with fail
      go_loopw [5, 22] (fun q i wr => ∃ (j : Nat) (b : Bool), j ≤ M ∧ i = i64 j ∧ q = .bool b ∧ Hid (b = swF (S.take j) x) ∧ Hid (Below w.heap.size w wr) ∧ Hid (wr.heap[wo.heap.size]? = some (oO x 55)) ∧ Hid (wr.ownsRow w.heap.size 55 4 (.slice ao2 n cap2) n (ocn ((O.take k).filter (swF S))))) (fun _ i _ => M - (intOf i).toNat)
      case atStart => exact ⟨0, false, by omega, rfl, rfl, rfl, HBV, HX0, HO.out.2.alloc _⟩
      case round =>
        obtain ⟨j, b, hj, rfl, rfl, HF, HBq, HX, HOq⟩ := hrel
        obtain ⟨x0, x1, x2, x3⟩ := four_cells HX.out
        have hxl := blk_lt HX.out
        by_cases hjt : j < M
        · have hjI : (j : Int) < M := by omega
          obtain ⟨s, hs⟩ : ∃ s, S[j]? = some s := ⟨_, List.getElem?_eq_getElem (by rw [← HM.out]; exact hjt)⟩
          obtain ⟨g2, o2, rfl, hgl2, y0, y1, y2⟩ := HRs.out.below HBq.out j s hs
          have hu := swF_succ (o := x) hs
          rw [← HF.out] at hu
          have HB2 : Hid (Below w.heap.size w (wr.alloc (lO s 57))) := HBq.out.alloc HBq.out.size _
          have HX2 : Hid ((wr.alloc (lO s 57)).heap[wo.heap.size]? = some (oO x 55)) := blk_alloc HX.out _
          have HO2 : Hid ((wr.alloc (lO s 57)).ownsRow w.heap.size 55 4 (.slice ao2 n cap2) n (ocn ((O.take k).filter (swF S)))) := HOq.out.alloc _
          have HU := hid hu
          clear hs hu
          cases b
          · by_cases h1 : s.2.2 = x.1
            · have q1 : (s.2.2 == x.1) = true := beq_iff_eq.2 h1
              have HU2 : Hid (true = swF (S.take (j + 1)) x) := by rw [Hid, HU.out, q1]; rfl
              clear h1
              go_wp2_with fail
              exact ⟨⟨j + 1, true, by omega, by go_num, rfl, HU2, HB2, HX2, HO2⟩, by simp [intOf]; omega⟩
            · have q1 : (s.2.2 == x.1) = false := beq_false_of_ne h1
              have HU2 : Hid (false = swF (S.take (j + 1)) x) := by rw [Hid, HU.out, q1]; rfl
              clear h1
              go_wp2_with fail
              exact ⟨⟨j + 1, false, by omega, by go_num, rfl, HU2, HB2, HX2, HO2⟩, by simp [intOf]; omega⟩
          · have HU2 : Hid (true = swF (S.take (j + 1)) x) := by rw [Hid, HU.out]; rfl
            go_wp2_with fail
            exact ⟨⟨j + 1, true, by omega, by go_num, rfl, HU2, HB2, HX2, HO2⟩, by simp [intOf]; omega⟩
        · have hfx : swF S x = b := by rw [HF.out, List.take_of_length_le (by rw [← HM.out]; omega)]
          cases b
          · have HE : Hid (n = ((O.take (k + 1)).filter (swF S)).length ∧ wr.ownsRow w.heap.size 55 4 (.slice ao2 n cap2) n (ocn ((O.take (k + 1)).filter (swF S)))) := by
              rw [flt_no HXk.out hfx]
              exact ⟨HO.out.1, HOq.out⟩
            clear hfx
            go_wp2_with fail
            exact ⟨⟨k + 1, n, ao2, cap2, by omega, by omega, by go_num, rfl, HE, HBq⟩, by simp [intOf]; omega⟩
          · obtain ⟨ao3, cap3, w3, hrun, hown3, hfr3, _, _⟩ := app_far (te := 55) uDo iDo rfl (by omega) (by omega) (V := wr) HOq.out (oC x) rfl (oC_one _) (by omega) HBq.out.size
            have HRun : Hid ((Builtin.append_ #[27, 27] 27 #[.slice ao2 n cap2, .slice (some ⟨wr.heap.size, 0, none⟩) 1 1]).run Try.prog (wr.alloc (oO x 55)) = .ok (.slice ao3 (n + 1) cap3) w3) := hrun
            have HB3 : Hid (Below w.heap.size w w3) := HBq.out.trans hfr3.below
            have HE : Hid (n + 1 = ((O.take (k + 1)).filter (swF S)).length ∧ w3.ownsRow w.heap.size 55 4 (.slice ao3 (n + 1) cap3) (n + 1) (ocn ((O.take (k + 1)).filter (swF S)))) := by
              rw [flt_yes HXk.out hfx, ocn_app, ocn_one, List.length_append, ← HO.out.1]
              exact ⟨rfl, hown3⟩
            clear hrun hown3 hfr3 hfx
            go_wp2_with (at_builtin; refine wpList_app_run rfl (.tmp 36) (.tmp 38) 27 rfl _ _ rfl rfl 27 rfl _ _ HRun.out ?_)
            exact ⟨⟨k + 1, n + 1, ao3, cap3, by omega, by omega, by go_num, rfl, HE, HB3⟩, by simp [intOf]; omega⟩
    · have hbr := blk_below HBk.out HB.out
      have y0 := blk_cell hbr 0
      have yf := blk_frozen hbr 0
      have HF : Hid (Rt (wo.setCell ⟨r, 0, none⟩ (.slice ao2 n cap2)) base r (swO O S) S) := by
        have h1 := HO.out
        rw [List.take_of_length_le (by rw [← HN.out]; omega)] at h1
        exact Rt.setO (B := w.heap.size) hlo hbr (own_keep1 HSO.out fun k hk => HB.out.block k (HSO.out.lt k hk).2) h1.1 h1.2 hbl hrl
      have HT : Hid (Touch r w (wo.setCell ⟨r, 0, none⟩ (.slice ao2 n cap2))) := Touch.setCell (q := r) (p := ⟨r, 0, none⟩) (Touch.of_below HB.out) rfl _
      clear hbr
      go_wp2_with fail
      go_end0
      exact ⟨rfl, HF.out, HT.out⟩
end Go.Proofs.Ytaapiffglfppnaa
