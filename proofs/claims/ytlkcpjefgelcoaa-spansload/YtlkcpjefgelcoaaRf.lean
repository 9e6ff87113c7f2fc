/- The document: Fork, All; no statement is proved in this text. -/
import Derived.Test.YtlkcpjefgelcoaaRe
namespace Go.Proofs.Ytlkcpjefgelcoaa
open Go.ChangeShapes Go.WideShapes Go.ChangeAt Go.RowKit Go.Deep
attribute [local go_sem ↓] Go.wp_at_zero Go.wp_at_succ

theorem upL_le (L : List Sp) (p : Int) (k : Nat) : (upL L p k).length ≤ k := by
  have := List.length_filterMap_le (fun g : Nat => L.find? (beg p (g : Int))) (List.range k)
  rw [List.length_range] at this
  exact this
set_option maxRecDepth 100000 in
set_option maxHeartbeats 3200000 in
theorem rsall_ok {w : World} {base r : Nat} {L : List Sp} (h : Rt w base r L) (hG : GS L) : Calls Try.prog 14 #[pq r] w fun e w' => GotD w w' e (allL L) ∧ Below w.heap.size w w' := by
  have hl : L.length ≤ 1000 := by have := hG.len; omega
  have HR := hid h
  have HA := hid fun W (hW : Rt W base r L) (p f : Int) (hf : L.find? (beg p f) = none) => rat_none p f hW hl hf
  have HS := hid fun W (hW : Rt W base r L) (p f : Int) (K : Nat) (s : Sp) (hK : L[K]? = some s) (hq : beg p f s = true) (hj : ∀ j x, j < K → L[j]? = some x → beg p f x = false) => rat_some p f K s hW hl hK hq hj
  have HF := hid hG.four
  obtain ⟨hlo, ao, cap, hbk, hown⟩ := h
  have hcap := own_cap4 hown
  have HRd0 : Hid (Rd4 w ao L) := Rd4.own hown
  have HBk := hid hbk
  obtain ⟨N, hN⟩ : ∃ N, N = L.length := ⟨_, rfl⟩
  have HN : Hid (N = L.length) := hN
  rw [← hN] at hl hcap
  clear hbk hown hN hG
  go_enter Try.func14, Try.ntmps14
  go_wp2_with fail
  go_loopw [3, 4] (fun v i wr => ∃ (k n : Nat) (ao2 : Option Addr) (cap2 : Nat), k ≤ 6 ∧ i = i64 ((k : Int) + 1) ∧ v = .slice ao2 n cap2 ∧ Hid (n = (firstA (ofL L) k).length ∧ wr.ownsRow w.heap.size 58 4 (.slice ao2 n cap2) n (scn (firstA (ofL L) k))) ∧ Hid (Below w.heap.size w wr)) (fun _ i _ => 7 - (intOf i).toNat)
  case atStart => exact ⟨0, 0, none, 0, by omega, rfl, rfl, ⟨rfl, World.ownsRow_nil _ _ _ _⟩, Below.refl _ _⟩
  case round =>
    obtain ⟨k, n, ao2, cap2, hk, rfl, rfl, HO, HB⟩ := hrel
    by_cases hlt6 : k < 6
    · have hkI : (k : Int) + 1 < 7 := by omega
      have hkJ : (0 : Int) ≤ (k : Int) := by omega
      have hn24 : (firstA (ofL L) k).length ≤ 24 := by have := firstA_len (ofL L) HF.out k; omega
      have HN24 := hid hn24
      clear hn24
      go_wp2_with fail
      go_loopw [3, 5] (fun v i wr => ∃ (g n : Nat) (ao2 : Option Addr) (cap2 : Nat), g ≤ 16 ∧ i = i64 g ∧ v = .slice ao2 n cap2 ∧ Hid (n = (firstA (ofL L) k ++ upL L ((k : Int) + 1) g).length ∧ wr.ownsRow w.heap.size 58 4 (.slice ao2 n cap2) n (scn (firstA (ofL L) k ++ upL L ((k : Int) + 1) g))) ∧ Hid (Below w.heap.size w wr)) (fun _ i _ => 16 - (intOf i).toNat)
      case atStart => exact ⟨0, n, ao2, cap2, by omega, rfl, rfl, by rw [show firstA (ofL L) k ++ upL L ((k : Int) + 1) 0 = firstA (ofL L) k from List.append_nil _]; exact HO, HB⟩
      case round =>
        obtain ⟨g, n, ao2, cap2, hg, rfl, rfl, HO, HB⟩ := hrel
        by_cases hlt : g < 16
        · have hgI : (g : Int) < 16 := by omega
          have HRw := hid (HR.out.below HB.out)
          have hns : n ≤ 100 := by rw [HO.out.1, List.length_append]; have := upL_le L ((k : Int) + 1) g; have := HN24.out; omega
          cases hf : L.find? (beg ((k : Int) + 1) (g : Int)) with
          | none =>
            have HC := hid (HA.out wr HRw.out ((k : Int) + 1) g hf)
            have HU : Hid (upL L ((k : Int) + 1) (g + 1) = upL L ((k : Int) + 1) g) := by rw [Hid, upL_succ, hf]; exact List.append_nil _
            clear hf
            go_wp2_with fail
            refine HC.out.mono ?_
            rintro e w2 ⟨rfl, hb2⟩
            have HB2 : Hid (Below w.heap.size w w2) := HB.out.trans (hb2.mono HB.out.size)
            have HO2 : Hid (n = (firstA (ofL L) k ++ upL L ((k : Int) + 1) (g + 1)).length ∧ w2.ownsRow w.heap.size 58 4 (.slice ao2 n cap2) n (scn (firstA (ofL L) k ++ upL L ((k : Int) + 1) (g + 1)))) := by
              rw [HU.out]
              exact ⟨HO.out.1, own_keep1 HO.out.2 (fun q hq => hb2.block q (HO.out.2.lt q hq).2)⟩
            clear hb2 HC
            go_wp2_with fail
            exact ⟨⟨g + 1, n, ao2, cap2, by omega, by go_num, rfl, HO2, HB2⟩, by simp [intOf]; omega⟩
          | some s =>
            obtain ⟨K, hK, hq, hj⟩ := find_at hf
            have hKL : K < N := by rw [HN.out]; exact (List.getElem?_eq_some_iff.1 hK).1
            have hKI : (K : Int) < N := by omega
            have hK0 : (0 : Int) ≤ K := by omega
            have HC := hid (HS.out wr HRw.out ((k : Int) + 1) g K s hK hq hj)
            have HU : Hid (upL L ((k : Int) + 1) (g + 1) = upL L ((k : Int) + 1) g ++ [s]) := by rw [Hid, upL_succ, hf]; rfl
            have HKs := hid hK
            clear hf hK hq hj
            go_wp2_with fail
            refine HC.out.mono ?_
            rintro e w2 ⟨rfl, hb2⟩
            have HB2 : Hid (Below w.heap.size w w2) := HB.out.trans (hb2.mono HB.out.size)
            have ho2 := own_keep1 HO.out.2 (fun q hq => hb2.block q (HO.out.2.lt q hq).2)
            obtain ⟨q0, o, rfl, hgl, c0, c1, c2, c3⟩ := HRd0.out.below HB2.out K s HKs.out
            have hbk2 := blk_below HBk.out HB2.out
            have b0 : w2.cell? ⟨r, 0, none⟩ = some (.slice (some ⟨q0, o, none⟩) N cap) := by rw [HN.out]; exact blk_cell hbk2 0
            have hrl := blk_lt hbk2
            obtain ⟨ao3, cap3, w3, hrun, hown3, hfr3, _, _⟩ := app_far (te := 58) uD iD rfl (by omega) (by omega) (V := w2) ho2 (sC s) rfl (sC_one _) (by omega) HB2.out.size
            have HRun : Hid ((Builtin.append_ #[27, 27] 27 #[.slice ao2 n cap2, .slice (some ⟨w2.heap.size, 0, none⟩) 1 1]).run Try.prog (w2.alloc (sO s 58)) = .ok (.slice ao3 (n + 1) cap3) w3) := hrun
            have HB3 : Hid (Below w.heap.size w w3) := HB2.out.trans hfr3.below
            have HE : Hid (n + 1 = (firstA (ofL L) k ++ upL L ((k : Int) + 1) (g + 1)).length ∧ w3.ownsRow w.heap.size 58 4 (.slice ao3 (n + 1) cap3) (n + 1) (scn (firstA (ofL L) k ++ upL L ((k : Int) + 1) (g + 1)))) := by
              rw [HU.out, ← List.append_assoc, scn_app, scn_one, List.length_append, ← HO.out.1]
              exact ⟨rfl, hown3⟩
            clear hb2 HC ho2 hrun hown3 hfr3 hbk2
            go_wp2_with (at_builtin; refine wpList_app_run rfl (.tmp 21) (.tmp 29) 27 rfl _ _ rfl rfl 27 rfl _ _ HRun.out ?_)
            exact ⟨⟨g + 1, n + 1, ao3, cap3, by omega, by go_num, rfl, HE, HB3⟩, by simp [intOf]; omega⟩
        · obtain rfl : g = 16 := by omega
          have HE : Hid (n = (firstA (ofL L) (k + 1)).length ∧ wr.ownsRow w.heap.size 58 4 (.slice ao2 n cap2) n (scn (firstA (ofL L) (k + 1)))) := by
            rw [firstA_succ]
            exact HO.out
          clear HO
          go_wp2_with fail
          exact ⟨⟨k + 1, n, ao2, cap2, by omega, by go_num, rfl, HE, HB⟩, by simp [intOf]; omega⟩
    · obtain rfl : k = 6 := by omega
      have HE : Hid (n = (allL L).length ∧ wr.ownsRow w.heap.size 58 4 (.slice ao2 n cap2) n (scn (allL L))) := HO.out
      clear HO
      go_wp2_with fail
      go_ret
      exact ⟨⟨ao2, cap2, by rw [← HE.out.1]; rfl, by rw [← HE.out.1]; exact HE.out.2⟩, HB.out⟩
set_option maxRecDepth 100000 in
set_option maxHeartbeats 800000 in
theorem rsfork_no {w : World} {base r : Nat} {L : List Sp} (p c E : Int) (h : Rt w base r L) (hl : L.length ≤ 1000) (hE : (E != 0) = true) (hc : ∀ W q, Rb W q q (L.map ar) → Calls Try.prog 57 #[pq q, i64 p, i64 c] W fun e' w' => e' = .returned (i64 E) ∧ Below W.heap.size W w') : Calls Try.prog 35 #[pq r, i64 p, i64 c] w fun e' w' => e' = .returned (i64 E) ∧ Below w.heap.size w w' := by
  have HL := hid (rlist_ok h hl)
  have HC := hid hc
  clear hc h
  go_enter Try.func35, Try.ntmps35
  go_wp2_with fail
  refine HL.out.mono ?_
  rintro e1 w1 ⟨rfl, hR1, hb1⟩
  have HB1 := hid hb1
  have HC1 := hid (HC.out w1 w.heap.size hR1)
  clear HL hR1 hb1 HC
  go_wp2_with fail
  refine HC1.out.mono ?_
  rintro e2 w2 ⟨rfl, hb2⟩
  have HB2 : Hid (Below w.heap.size w w2) := HB1.out.trans (hb2.mono HB1.out.size)
  clear HC1 hb2
  go_wp2_with fail
  go_ret
  exact ⟨rfl, HB2.out⟩
set_option maxRecDepth 100000 in
set_option maxHeartbeats 3200000 in
theorem rsfork_ok {w : World} {base r : Nat} {L : List Sp} (p c : Int) (h : Rt w base r L) (hG : GS L) (hk : FkOk p c) (hc : cntL (L.map ar) c = 0) : Calls Try.prog 35 #[pq r, i64 p, i64 c] w fun e w' => e = .returned (i64 0) ∧ Rt w' base r (forkS L p c) ∧ Fr base [29, 58] w w' := by
  have hl : L.length ≤ 24 := hG.len
  have HL := hid (rlist_ok h (by omega))
  have HC := hid fun W q (hR : Rb W q q (L.map ar)) => rfork_ok (w := W) p c hk hR (by simp; omega) hc
  have HR := hid h
  have hbw := h.lob
  clear h hc hk hG
  go_enter Try.func35, Try.ntmps35
  go_wp2_with fail
  refine HL.out.mono ?_
  rintro e1 w0 ⟨rfl, hR1, hb1⟩
  have HB0 := hid hb1
  have HC1 := hid (HC.out w0 w.heap.size hR1)
  clear HL hR1 hb1 HC
  go_wp2_with fail
  refine HC1.out.mono ?_
  rintro e2 w1 ⟨rfl, _, hf2⟩
  have HB1 : Hid (Below w.heap.size w w1) := HB0.out.trans hf2.below
  have HR1 := hid (HR.out.below HB1.out)
  clear hf2 HC1
  obtain ⟨hlo, ao, cap, hbk, hown⟩ := HR.out
  have hcap := own_cap4 hown
  have hzz : ∃ ao2 cap2 w2, (Builtin.append_ #[27, 27] 27 #[.slice none 0 0, .slice ao L.length cap]).run Try.prog w1 = .ok (.slice ao2 L.length cap2) w2 ∧ w2.ownsRow w1.heap.size 58 4 (.slice ao2 L.length cap2) L.length (scn L) ∧ Below w1.heap.size w1 w2 := by
    have hown1 : w1.ownsRow base 58 4 (.slice ao L.length cap) L.length (scn L) := own_keep1 hown fun k hk => HB1.out.block k (hown.lt k hk).2
    by_cases h0 : L.length = 0
    · have : L = [] := List.eq_nil_of_length_eq_zero h0
      subst this
      obtain ⟨i, hi, hz, hs, hb⟩ := info_parts iD
      rcases hown1.2 with ⟨hn, _⟩ | ⟨g, cap', cur, he, hbg, hgg, _⟩
      · rw [hn]
        exact ⟨none, 0, w1, run_append_owned_none (P := Try.prog) w1 w1.heap.size 27 27 58 i 4 uD hi _ 0 [] (World.ownsRow_nil _ _ _ _), World.ownsRow_nil _ _ _ _, Below.refl _ _⟩
      · simp only [Value.slice.injEq] at he
        obtain ⟨rfl, _, rfl⟩ := he
        obtain ⟨v2, w2, hr, ho, _, hb2⟩ := rappS (V := w1) (base := w1.heap.size) (v := .slice none 0 0) (L1 := []) (World.ownsRow_nil _ _ _ _) [] ⟨g, 0, none⟩ cap (fun j u hu => by simp [scn] at hu) (by simp) (Nat.le_refl _)
        obtain ⟨ao2, cap2, rfl, _⟩ := own_slice ho
        exact ⟨ao2, cap2, w2, hr, ho, hb2 rfl⟩
    · obtain ⟨g, rfl, hbg, cur, hgg, _⟩ := own_zero4 hown1 (by omega)
      have hadd : ∀ o j, (⟨g, o, none⟩ : Addr).add j = ⟨g, o + j, none⟩ := fun o j => Addr.add_mid g o j
      obtain ⟨v2, w2, hr, ho, _, hb2⟩ := rappS (V := w1) (base := w1.heap.size) (v := .slice none 0 0) (L1 := []) (World.ownsRow_nil _ _ _ _) L ⟨g, 0, none⟩ cap (fun j u hu => by
        have := hown1.cells (g := g) rfl j u hu
        exact this) (by simp; omega) (Nat.le_refl _)
      rw [List.nil_append] at ho
      obtain ⟨ao2, cap2, rfl, _⟩ := own_slice ho
      exact ⟨ao2, cap2, w2, hr, ho, hb2 rfl⟩
  obtain ⟨ao2, cap2, w2, hrun, ho2, hb2⟩ := hzz
  have HRun := hid hrun
  have HB2 : Hid (Below w.heap.size w w2) := HB1.out.trans (hb2.mono HB1.out.size)
  have HO2 : Hid (w2.ownsRow w.heap.size 58 4 (.slice ao2 L.length cap2) L.length (scn L)) := own_low ho2 HB1.out.size
  have HRd0 : Hid (Rd4 w ao L) := Rd4.own hown
  have b0 : w1.cell? ⟨r, 0, none⟩ = some (.slice ao L.length cap) := blk_cell (blk_below hbk HB1.out) 0
  have HBk : Hid (w.heap[r]? = some (.cells #[.slice ao L.length cap] 29)) := hbk
  have b2 : w2.cell? ⟨r, 0, none⟩ = some (.slice ao L.length cap) := blk_cell (blk_below hbk HB2.out) 0
  obtain ⟨N, hN⟩ : ∃ N, N = L.length := ⟨_, rfl⟩
  have HN : Hid (N = L.length) := hN
  rw [← hN] at b0 b2 hl hcap HRun HO2
  clear hbk hown hrun ho2 hb2 hN
  go_wp2_with (at_builtin; refine wpList_app_run rfl (.tmp 19) (.tmp 23) 27 rfl _ _ rfl rfl 27 rfl _ _ HRun.out ?_)
  go_loopw [8, 30] (fun v i wr => ∃ (k n : Nat) (ao2 : Option Addr) (cap2 : Nat), k ≤ N ∧ n ≤ N + k ∧ i = i64 k ∧ v = .slice ao2 n cap2 ∧ Hid (n = (L ++ ((L.take k).filter (pidF p)).map (mvS c)).length ∧ wr.ownsRow w.heap.size 58 4 (.slice ao2 n cap2) n (scn (L ++ ((L.take k).filter (pidF p)).map (mvS c)))) ∧ Hid (Below w.heap.size w wr)) (fun _ i _ => N - (intOf i).toNat)
  case atStart => exact ⟨0, N, ao2, cap2, by omega, by omega, rfl, rfl, by simpa [Hid] using ⟨HN.out, HO2.out⟩, HB2⟩
  case round =>
    obtain ⟨k, n, ao3, cap3, hk, hn, rfl, rfl, HO, HB⟩ := hrel
    have HBw := HB
    by_cases hlt : k < N
    · have hkI : (k : Int) < N := by omega
      obtain ⟨e, he⟩ : ∃ e, L[k]? = some e := ⟨_, List.getElem?_eq_getElem (by rw [← HN.out]; exact hlt)⟩
      obtain ⟨g0, o, rfl, hgl, c0, c1, c2, c3⟩ := HRd0.out.below HB.out k e he
      have HBV : Hid (Below w.heap.size w (wr.alloc (sO e 58))) := HB.out.alloc HB.out.size _
      have HEe := hid he
      clear he
      by_cases h1 : e.1 = p
      · have q1 : (e.1 == p) = true := beq_iff_eq.2 h1
        have hfe : pidF p e = true := beq_iff_eq.2 h1
        obtain ⟨ao4, cap4, w4, hrun, hown4, hfr4, _, _⟩ := app_far (te := 58) uD iD rfl (by omega) (by omega) (V := wr.alloc (sO e 58)) (HO.out.2.alloc _) (sC (mvS c e)) rfl (sC_one _) (by omega) (Nat.le_trans HBw.out.size (by simp))
        have e1 : (wr.alloc (sO e 58)).heap.size = wr.heap.size + 1 := by simp
        rw [e1] at hrun
        have HRun4 : Hid ((Builtin.append_ #[27, 27] 27 #[.slice ao3 n cap3, .slice (some ⟨wr.heap.size + 1, 0, none⟩) 1 1]).run Try.prog ((wr.alloc (sO e 58)).alloc (sO (mvS c e) 58)) = .ok (.slice ao4 (n + 1) cap4) w4) := hrun
        have HE : Hid (n + 1 = (L ++ ((L.take (k + 1)).filter (pidF p)).map (mvS c)).length ∧ w4.ownsRow w.heap.size 58 4 (.slice ao4 (n + 1) cap4) (n + 1) (scn (L ++ ((L.take (k + 1)).filter (pidF p)).map (mvS c)))) := by
          rw [flS_yes HEe.out hfe, List.map_append, ← List.append_assoc, scn_app, List.length_append, ← HO.out.1]
          exact ⟨rfl, by rw [show scn ([e].map (mvS c)) = sC (mvS c e) from scn_one _]; exact hown4⟩
        have HB4 : Hid (Below w.heap.size w w4) := HBV.out.trans hfr4.below
        clear hrun hown4 hfr4 e1 hfe h1
        go_wp2_with (at_builtin; refine wpList_app_run rfl (.tmp 38) (.tmp 47) 27 rfl _ _ rfl rfl 27 rfl _ _ HRun4.out ?_)
        exact ⟨⟨k + 1, n + 1, ao4, cap4, by omega, by omega, by go_num, rfl, HE, HB4⟩, by simp [intOf]; omega⟩
      · have q1 : (e.1 == p) = false := beq_false_of_ne h1
        have hfe : pidF p e = false := beq_false_of_ne h1
        have HE : Hid (n = (L ++ ((L.take (k + 1)).filter (pidF p)).map (mvS c)).length ∧ (wr.alloc (sO e 58)).ownsRow w.heap.size 58 4 (.slice ao3 n cap3) n (scn (L ++ ((L.take (k + 1)).filter (pidF p)).map (mvS c)))) := by
          rw [flS_no HEe.out hfe]
          exact ⟨HO.out.1, HO.out.2.alloc _⟩
        clear h1 hfe
        go_wp2_with fail
        exact ⟨⟨k + 1, n, ao3, cap3, by omega, by omega, by go_num, rfl, HE, HBV⟩, by simp [intOf]; omega⟩
    · have hE : n = (forkS L p c).length ∧ wr.ownsRow w.heap.size 58 4 (.slice ao3 n cap3) n (scn (forkS L p c)) := by
        have := HO.out
        rw [List.take_of_length_le (by rw [← HN.out]; omega)] at this
        exact this
      have HBr := hid ((HB.out.block r (blk_lt HBk.out)).trans HBk.out)
      have r0 : wr.cell? ⟨r, 0, none⟩ = some (.slice ao N cap) := by rw [HN.out]; exact blk_cell HBr.out 0
      have rf : wr.frozen? ⟨r, 0, none⟩ = false := blk_frozen HBr.out 0
      have HRb : Hid (Rt (wr.setCell ⟨r, 0, none⟩ (.slice ao3 n cap3)) base r (forkS L p c)) := set_rt hlo HBr.out hE.1 (own_low hE.2 hbw)
      have HFr : Hid (Fr base [29, 58] w (wr.setCell ⟨r, 0, none⟩ (.slice ao3 n cap3))) := (Fr.of_below _ HBw.out hbw).trans (set_frt hlo HBr.out _)
      clear hE
      go_wp2_with fail
      go_ret
      exact ⟨rfl, HRb.out, HFr.out⟩
end Go.Proofs.Ytlkcpjefgelcoaa
