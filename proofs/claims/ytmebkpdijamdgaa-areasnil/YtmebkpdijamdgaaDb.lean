/- The document's Drop, Unmap, Map, Fork, Right; no statement is proved in this text. -/
import Derived.Test.YtmebkpdijamdgaaDa
namespace Go.Proofs.Ytmebkpdijamdgaa
open Go.ChangeShapes Go.WideShapes Go.ChangeAt Go.RowKit Go.Deep
attribute [local go_sem ↓] Go.wp_at_zero Go.wp_at_succ

theorem set_rb {V : World} {base r : Nat} {x : Value} {ao : Option Addr} {cap : Nat} {M : List Ar} {n : Nat} (hlo : base ≤ r) (h : V.heap[r]? = some (.cells #[x] 29)) (hn : n = M.length) (ho : V.ownsRow base 58 3 (.slice ao n cap) n (acn M)) : Rb (V.setCell ⟨r, 0, none⟩ (.slice ao n cap)) base r M := by
  subst hn
  refine ⟨hlo, ao, cap, heap_set1 h _, own_keep ho fun k C hC => ?_⟩
  rw [Below.heap_setCell _ _ _ _ (fun e => by rw [show k = r from e, h] at hC; simp at hC)]
  exact hC
theorem set_fr {V w : World} {base r : Nat} {x v : Value} (hlo : base ≤ r) (h : V.heap[r]? = some (.cells #[x] 29)) (hb : Below w.heap.size w V) (hbw : base ≤ w.heap.size) : Fr base [29, 58] w (V.setCell ⟨r, 0, none⟩ v) :=
  (Fr.of_below _ hb hbw).trans (Fr.of_touch ((Touch.refl r V).setCell rfl _) h (by rfl) hlo)
theorem cnt_drp (L : List Ar) (p : Int) : L.length = cntL L p + (drpL L p).length := by
  induction L with
  | nil => rfl
  | cons a l ih =>
    have e1 : cntL (a :: l) p = (if a.1 = p then 1 else 0) + cntL l p := by rw [← cntL_one, ← cntL_app]; rfl
    by_cases h : a.1 = p
    · have e2 : drpL (a :: l) p = drpL l p := by simp [drpL, ofF, h]
      rw [e1, e2, if_pos h, List.length_cons, ih]
      omega
    · have e2 : drpL (a :: l) p = a :: drpL l p := by simp [drpL, ofF, h]
      rw [e1, e2, if_neg h, List.length_cons, List.length_cons, ih]
      omega
set_option maxRecDepth 100000 in
set_option maxHeartbeats 3200000 in
theorem rdrop_ok {w : World} {base r : Nat} {L : List Ar} (h : Rb w base r L) (hl : L.length ≤ 1000) (p : Int) : Calls Try.prog 25 #[pq r, i64 p] w fun e w' => e = .returned (i64 (cntL L p)) ∧ Rb w' base r (drpL L p) ∧ Fr base [29, 58] w w' := by
  have HR := hid h
  have hbw := h.lob
  obtain ⟨hlo, ao, cap, hbk, hown⟩ := h
  have hcap := own_cap hown
  have HRd0 : Hid (Rd3 w ao L) := Rd3.own hown
  have b0 : w.cell? ⟨r, 0, none⟩ = some (.slice ao L.length cap) := blk_cell hbk 0
  obtain ⟨N, hN⟩ : ∃ N, N = L.length := ⟨_, rfl⟩
  have HN : Hid (N = L.length) := hN
  rw [← hN] at b0 hl hcap
  clear hN
  have HBk := hid hbk
  clear hbk hown
  obtain ⟨C, hC⟩ : ∃ C, C = cntL L p := ⟨_, rfl⟩
  have HC := hid hC
  rw [← hC]
  clear hC
  go_enter Try.func25, Try.ntmps25
  go_wp2_with fail
  go_loopw [5, 14] (fun v i wr => ∃ (k n : Nat) (ao2 : Option Addr) (cap2 : Nat), k ≤ N ∧ n ≤ k ∧ i = i64 k ∧ v = .slice ao2 n cap2 ∧ Hid (n = ((L.take k).filter (fun a => !ofF p a)).length ∧ wr.ownsRow w.heap.size 58 3 (.slice ao2 n cap2) n (acn ((L.take k).filter (fun a => !ofF p a)))) ∧ Hid (Below w.heap.size w wr)) (fun _ i _ => N - (intOf i).toNat)
  case atStart => exact ⟨0, 0, none, 0, by omega, by omega, rfl, rfl, ⟨rfl, World.ownsRow_nil _ _ _ _⟩, Below.refl _ _⟩
  case round =>
    obtain ⟨k, n, ao2, cap2, hk, hn, rfl, rfl, HO, HB⟩ := hrel
    by_cases hlt : k < N
    · have hkI : (k : Int) < N := by omega
      obtain ⟨e, he⟩ : ∃ e, L[k]? = some e := ⟨_, List.getElem?_eq_getElem (by rw [← HN.out]; exact hlt)⟩
      obtain ⟨g0, o, rfl, hgl, c0, c1, c2⟩ := HRd0.out.below HB.out k e he
      have HBV : Hid (Below w.heap.size w (wr.alloc (arO e 58))) := HB.out.alloc HB.out.size _
      have HEe := hid he
      clear he
      by_cases h1 : e.1 = p
      · have q1 : (e.1 != p) = false := by rw [bne, beq_iff_eq.2 h1]; rfl
        have hfe : (fun a => !ofF p a) e = false := by simp [ofF, h1]
        clear h1
        have HE : Hid (n = ((L.take (k + 1)).filter (fun a => !ofF p a)).length ∧ (wr.alloc (arO e 58)).ownsRow w.heap.size 58 3 (.slice ao2 n cap2) n (acn ((L.take (k + 1)).filter (fun a => !ofF p a)))) := by
          rw [flt_no HEe.out hfe]
          exact ⟨HO.out.1, HO.out.2.alloc _⟩
        clear hfe
        go_wp2_with fail
        exact ⟨⟨k + 1, n, ao2, cap2, by omega, by omega, by go_num, rfl, HE, HBV⟩, by simp [intOf]; omega⟩
      · have q1 : (e.1 != p) = true := by rw [bne, beq_false_of_ne h1]; rfl
        have hfe : (fun a => !ofF p a) e = true := by simp [ofF, h1]
        clear h1
        obtain ⟨ao3, cap3, w3, hrun, hown3, hfr3, _, _⟩ := app_far (te := 58) under27 info58x rfl (by omega) (by omega) (V := wr.alloc (arO e 58)) (HO.out.2.alloc _) (aC e) rfl (aC_one _) (by omega) HBV.out.size
        have e1 : (wr.alloc (arO e 58)).heap.size = wr.heap.size + 1 := by simp
        rw [e1] at hrun
        have HRun : Hid ((Builtin.append_ #[27, 27] 27 #[.slice ao2 n cap2, .slice (some ⟨wr.heap.size + 1, 0, none⟩) 1 1]).run Try.prog ((wr.alloc (arO e 58)).alloc (arO e 58)) = .ok (.slice ao3 (n + 1) cap3) w3) := hrun
        have HB3 : Hid (Below w.heap.size w w3) := HBV.out.trans hfr3.below
        have HE : Hid (n + 1 = ((L.take (k + 1)).filter (fun a => !ofF p a)).length ∧ w3.ownsRow w.heap.size 58 3 (.slice ao3 (n + 1) cap3) (n + 1) (acn ((L.take (k + 1)).filter (fun a => !ofF p a)))) := by
          rw [flt_yes HEe.out hfe, acn_app, acn_one, List.length_append, ← HO.out.1]
          exact ⟨rfl, hown3⟩
        clear hrun hown3 hfr3 e1 hfe
        go_wp2_with (at_builtin; refine wpList_app_run rfl (.tmp 22) (.tmp 24) 27 rfl _ _ rfl rfl 27 rfl _ _ HRun.out ?_)
        exact ⟨⟨k + 1, n + 1, ao3, cap3, by omega, by omega, by go_num, rfl, HE, HB3⟩, by simp [intOf]; omega⟩
    · have hE : n = (drpL L p).length ∧ wr.ownsRow w.heap.size 58 3 (.slice ao2 n cap2) n (acn (drpL L p)) := by
        have := HO.out
        rw [List.take_of_length_le (by rw [← HN.out]; omega)] at this
        exact this
      have HBr := hid ((HB.out.block r (blk_lt HBk.out)).trans HBk.out)
      have r0 : wr.cell? ⟨r, 0, none⟩ = some (.slice ao N cap) := by rw [HN.out]; exact blk_cell HBr.out 0
      have rf : wr.frozen? ⟨r, 0, none⟩ = false := blk_frozen HBr.out 0
      have HRb : Hid (Rb (wr.setCell ⟨r, 0, none⟩ (.slice ao2 n cap2)) base r (drpL L p)) := set_rb hlo HBr.out hE.1 (own_low hE.2 hbw)
      have HFr : Hid (Fr base [29, 58] w (wr.setCell ⟨r, 0, none⟩ (.slice ao2 n cap2))) := set_fr hlo HBr.out HB.out hbw
      have hCn : (C : Int) = N - n := by
        have h1 := cnt_drp L p
        rw [← HN.out, ← HC.out, ← hE.1] at h1
        omega
      have HCn := hid hCn
      have hnN : n ≤ N := by omega
      clear hE hCn
      go_wp2_with fail
      go_ret
      exact ⟨by rw [HCn.out]; rfl, HRb.out, HFr.out⟩
theorem unm_no {L : List Ar} {k : Nat} {e : Ar} {p g : Int} (h : L[k]? = some e) (hf : fromF p g e = false) : unmI (L.take (k + 1)) p g = unmI (L.take k) p g := by
  unfold unmI
  rw [flt_no h hf]
theorem unm_yes {L : List Ar} (hg : Good L) {k : Nat} {e : Ar} {p g : Int} (h : L[k]? = some e) (hf : fromF p g e = true) : unmI (L.take (k + 1)) p g = e.2.2 := by
  unfold unmI
  rcases (hg.take (k + 1)).one p g with h1 | ⟨a, h1, _⟩
  · rw [flt_yes h hf] at h1
    simp at h1
  · have h2 := h1
    rw [flt_yes h hf] at h2
    rw [h1]
    rcases h3 : (L.take k).filter (fromF p g) with _ | ⟨b, M⟩
    · rw [h3] at h2
      simp at h2
      simp [h2]
    · rw [h3] at h2
      simp at h2
theorem unm_zero {L : List Ar} (hg : Good L) (p g : Int) : (unmI L p g = 0 ∧ unmE L p g = 6 ∧ unmL L p g = L) ∨ (unmI L p g ≠ 0 ∧ unmE L p g = 0) := by
  rcases hg.one p g with h1 | ⟨a, h1, ha⟩
  · left
    refine ⟨by simp [unmI, h1], by simp [unmE, h1], flt_keep h1⟩
  · right
    have := isA_of ha
    refine ⟨?_, by simp [unmE, h1]⟩
    simp only [unmI, h1]
    omega
set_option maxRecDepth 100000 in
set_option maxHeartbeats 3200000 in
theorem runmap_ok {w : World} {base r : Nat} {L : List Ar} (h : Rb w base r L) (hl : L.length ≤ 1000) (hg : Good L) (p g : Int) : Calls Try.prog 23 #[pq r, i64 p, i64 g] w fun e w' => e = .returned (.tuple #[i64 (unmI L p g), i64 (unmE L p g)]) ∧ Rb w' base r (unmL L p g) ∧ Fr base [29, 58] w w' := by
  have HR := hid h
  have hbw := h.lob
  have HG := hid hg
  obtain ⟨hlo, ao, cap, hbk, hown⟩ := h
  have hcap := own_cap hown
  have HRd0 : Hid (Rd3 w ao L) := Rd3.own hown
  have b0 : w.cell? ⟨r, 0, none⟩ = some (.slice ao L.length cap) := blk_cell hbk 0
  obtain ⟨N, hN⟩ : ∃ N, N = L.length := ⟨_, rfl⟩
  have HN : Hid (N = L.length) := hN
  rw [← hN] at b0 hl hcap
  clear hN
  have HBk := hid hbk
  clear hbk hown hg
  have HZ := hid (unm_zero HG.out p g)
  obtain ⟨I, hI⟩ : ∃ I, I = unmI L p g := ⟨_, rfl⟩
  obtain ⟨E, hE⟩ : ∃ E, E = unmE L p g := ⟨_, rfl⟩
  have HI := hid hI
  rw [← hI, ← hE] at HZ
  rw [← hI, ← hE]
  clear hI hE
  go_enter Try.func23, Try.ntmps23
  go_wp2_with fail
  go_loopw [8, 9, 17] (fun x v i wr => ∃ (k n : Nat) (ao2 : Option Addr) (cap2 : Nat) (c : Int), k ≤ N ∧ n ≤ k ∧ x = i64 c ∧ i = i64 k ∧ v = .slice ao2 n cap2 ∧ Hid (c = unmI (L.take k) p g) ∧ Hid (n = ((L.take k).filter (fun a => !fromF p g a)).length ∧ wr.ownsRow w.heap.size 58 3 (.slice ao2 n cap2) n (acn ((L.take k).filter (fun a => !fromF p g a)))) ∧ Hid (Below w.heap.size w wr)) (fun _ _ i _ => N - (intOf i).toNat)
  case atStart => exact ⟨0, 0, none, 0, 0, by omega, by omega, rfl, rfl, rfl, rfl, ⟨rfl, World.ownsRow_nil _ _ _ _⟩, Below.refl _ _⟩
  case round =>
    obtain ⟨k, n, ao2, cap2, c, hk, hn, rfl, rfl, rfl, HU, HO, HB⟩ := hrel
    by_cases hlt : k < N
    · have hkI : (k : Int) < N := by omega
      obtain ⟨e, he⟩ : ∃ e, L[k]? = some e := ⟨_, List.getElem?_eq_getElem (by rw [← HN.out]; exact hlt)⟩
      obtain ⟨g0, o, rfl, hgl, c0, c1, c2⟩ := HRd0.out.below HB.out k e he
      have HBV : Hid (Below w.heap.size w (wr.alloc (arO e 58))) := HB.out.alloc HB.out.size _
      have HEe := hid he
      clear he
      by_cases h1 : e.1 = p
      · have q1 : (e.1 == p) = true := beq_iff_eq.2 h1
        by_cases h2 : e.2.1 = g
        · have q2 : (e.2.1 == g) = true := beq_iff_eq.2 h2
          have hff : fromF p g e = true := by simp [fromF, h1, h2]
          have HU2 : Hid (e.2.2 = unmI (L.take (k + 1)) p g) := (unm_yes HG.out HEe.out hff).symm
          have hfe : (fun a => !fromF p g a) e = false := by simp [hff]
          clear h1 h2 hff
          have HE : Hid (n = ((L.take (k + 1)).filter (fun a => !fromF p g a)).length ∧ (wr.alloc (arO e 58)).ownsRow w.heap.size 58 3 (.slice ao2 n cap2) n (acn ((L.take (k + 1)).filter (fun a => !fromF p g a)))) := by
            rw [flt_no HEe.out hfe]
            exact ⟨HO.out.1, HO.out.2.alloc _⟩
          clear hfe
          go_wp2_with fail
          exact ⟨⟨k + 1, n, ao2, cap2, e.2.2, by omega, by omega, rfl, by go_num, rfl, HU2, HE, HBV⟩, by simp [intOf]; omega⟩
        · have q2 : (e.2.1 == g) = false := beq_false_of_ne h2
          have hff : fromF p g e = false := by simp [fromF, h2]
          have HU2 : Hid (c = unmI (L.take (k + 1)) p g) := by rw [Hid, unm_no HEe.out hff]; exact HU.out
          have hfe : (fun a => !fromF p g a) e = true := by simp [hff]
          clear h1 h2 hff
          obtain ⟨ao3, cap3, w3, hrun, hown3, hfr3, _, _⟩ := app_far (te := 58) under27 info58x rfl (by omega) (by omega) (V := wr.alloc (arO e 58)) (HO.out.2.alloc _) (aC e) rfl (aC_one _) (by omega) HBV.out.size
          have e1 : (wr.alloc (arO e 58)).heap.size = wr.heap.size + 1 := by simp
          rw [e1] at hrun
          have HRun : Hid ((Builtin.append_ #[27, 27] 27 #[.slice ao2 n cap2, .slice (some ⟨wr.heap.size + 1, 0, none⟩) 1 1]).run Try.prog ((wr.alloc (arO e 58)).alloc (arO e 58)) = .ok (.slice ao3 (n + 1) cap3) w3) := hrun
          have HB3 : Hid (Below w.heap.size w w3) := HBV.out.trans hfr3.below
          have HE : Hid (n + 1 = ((L.take (k + 1)).filter (fun a => !fromF p g a)).length ∧ w3.ownsRow w.heap.size 58 3 (.slice ao3 (n + 1) cap3) (n + 1) (acn ((L.take (k + 1)).filter (fun a => !fromF p g a)))) := by
            rw [flt_yes HEe.out hfe, acn_app, acn_one, List.length_append, ← HO.out.1]
            exact ⟨rfl, hown3⟩
          clear hrun hown3 hfr3 e1 hfe
          go_wp2_with (at_builtin; refine wpList_app_run rfl (.tmp 33) (.tmp 35) 27 rfl _ _ rfl rfl 27 rfl _ _ HRun.out ?_)
          exact ⟨⟨k + 1, n + 1, ao3, cap3, c, by omega, by omega, rfl, by go_num, rfl, HU2, HE, HB3⟩, by simp [intOf]; omega⟩
      · have q1 : (e.1 == p) = false := beq_false_of_ne h1
        have hff : fromF p g e = false := by simp [fromF, h1]
        have HU2 : Hid (c = unmI (L.take (k + 1)) p g) := by rw [Hid, unm_no HEe.out hff]; exact HU.out
        have hfe : (fun a => !fromF p g a) e = true := by simp [hff]
        clear h1 hff
        obtain ⟨ao3, cap3, w3, hrun, hown3, hfr3, _, _⟩ := app_far (te := 58) under27 info58x rfl (by omega) (by omega) (V := wr.alloc (arO e 58)) (HO.out.2.alloc _) (aC e) rfl (aC_one _) (by omega) HBV.out.size
        have e1 : (wr.alloc (arO e 58)).heap.size = wr.heap.size + 1 := by simp
        rw [e1] at hrun
        have HRun : Hid ((Builtin.append_ #[27, 27] 27 #[.slice ao2 n cap2, .slice (some ⟨wr.heap.size + 1, 0, none⟩) 1 1]).run Try.prog ((wr.alloc (arO e 58)).alloc (arO e 58)) = .ok (.slice ao3 (n + 1) cap3) w3) := hrun
        have HB3 : Hid (Below w.heap.size w w3) := HBV.out.trans hfr3.below
        have HE : Hid (n + 1 = ((L.take (k + 1)).filter (fun a => !fromF p g a)).length ∧ w3.ownsRow w.heap.size 58 3 (.slice ao3 (n + 1) cap3) (n + 1) (acn ((L.take (k + 1)).filter (fun a => !fromF p g a)))) := by
          rw [flt_yes HEe.out hfe, acn_app, acn_one, List.length_append, ← HO.out.1]
          exact ⟨rfl, hown3⟩
        clear hrun hown3 hfr3 e1 hfe
        go_wp2_with (at_builtin; refine wpList_app_run rfl (.tmp 33) (.tmp 35) 27 rfl _ _ rfl rfl 27 rfl _ _ HRun.out ?_)
        exact ⟨⟨k + 1, n + 1, ao3, cap3, c, by omega, by omega, rfl, by go_num, rfl, HU2, HE, HB3⟩, by simp [intOf]; omega⟩
    · have hE : n = (unmL L p g).length ∧ wr.ownsRow w.heap.size 58 3 (.slice ao2 n cap2) n (acn (unmL L p g)) := by
        have := HO.out
        rw [List.take_of_length_le (by rw [← HN.out]; omega)] at this
        exact this
      have hcI : c = I := by
        have h1 := HU.out
        rw [List.take_of_length_le (by rw [← HN.out]; omega)] at h1
        rw [HI.out]
        exact h1
      subst hcI
      have HBr := hid ((HB.out.block r (blk_lt HBk.out)).trans HBk.out)
      rcases HZ.out with ⟨z1, z2, z3⟩ | ⟨z1, z2⟩
      · have q : (c == 0) = true := beq_iff_eq.2 z1
        have HE : Hid (E = 6) := z2
        have HC : Hid (c = 0) := z1
        have HRr : Hid (Rb wr base r (unmL L p g)) := by rw [Hid, z3]; exact HR.out.below HB.out
        have HFr : Hid (Fr base [29, 58] w wr) := Fr.of_below _ HB.out hbw
        clear z1 z2 z3 hE
        go_wp2_with fail
        go_ret2
        exact ⟨by rw [HE.out, HC.out]; rfl, HRr.out, HFr.out⟩
      · have q : (c == 0) = false := beq_false_of_ne z1
        have HE : Hid (E = 0) := z2
        have r0 : wr.cell? ⟨r, 0, none⟩ = some (.slice ao N cap) := by rw [HN.out]; exact blk_cell HBr.out 0
        have rf : wr.frozen? ⟨r, 0, none⟩ = false := blk_frozen HBr.out 0
        have HRb : Hid (Rb (wr.setCell ⟨r, 0, none⟩ (.slice ao2 n cap2)) base r (unmL L p g)) := set_rb hlo HBr.out hE.1 (own_low hE.2 hbw)
        have HFr : Hid (Fr base [29, 58] w (wr.setCell ⟨r, 0, none⟩ (.slice ao2 n cap2))) := set_fr hlo HBr.out HB.out hbw
        clear z1 z2 hE
        go_wp2_with fail
        go_ret2
        exact ⟨by rw [HE.out]; rfl, HRb.out, HFr.out⟩
end Go.Proofs.Ytmebkpdijamdgaa
