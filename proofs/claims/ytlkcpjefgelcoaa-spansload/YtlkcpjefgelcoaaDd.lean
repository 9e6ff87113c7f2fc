/- The document's Fork, Right; no statement is proved in this text. -/
import Derived.Test.YtlkcpjefgelcoaaDc
namespace Go.Proofs.Ytlkcpjefgelcoaa
open Go.ChangeShapes Go.WideShapes Go.ChangeAt Go.RowKit Go.Deep
attribute [local go_sem ↓] Go.wp_at_zero Go.wp_at_succ

/-- A row behind nothing. -/
theorem app_all {V : World} {base : Nat} {u : Value} {m : Nat} {Y : List Ar} (hu : V.ownsRow base 98 3 u m (acn Y)) (hm : m ≤ 1000) :
    ∃ ao cap w', (Builtin.append_ #[89, 89] 89 #[.slice none 0 0, u]).run Try.prog V = .ok (.slice ao m cap) w' ∧ w'.ownsRow V.heap.size 98 3 (.slice ao m cap) m (acn Y) ∧ Below V.heap.size V w' := by
  obtain ⟨i, hi, hz, hs, hb⟩ := info_parts info58x
  have ho : V.ownsRow V.heap.size 98 3 (.slice none 0 0) 0 [] := World.ownsRow_nil _ _ _ _
  rcases hu.2 with ⟨rfl, rfl⟩ | ⟨g, cap, cur, rfl, hbg, hgg, _⟩
  · have hY : acn Y = [] := List.eq_nil_of_length_eq_zero (by have := hu.1; omega)
    rw [hY]
    exact ⟨none, 0, V, run_append_owned_none (P := Try.prog) V V.heap.size 89 89 98 i 3 under27 hi _ 0 [] ho, ho, Below.refl _ _⟩
  · have hmul : (0 + m) * 24 ≤ 140737488355328 := Nat.le_trans (Nat.mul_le_mul (show 0 + m ≤ 1000 by omega) (Nat.le_refl 24)) (by decide)
    have hnews : ∀ j x, (acn Y)[j]? = some x → V.cell? ((⟨g, 0, none⟩ : Addr).add j) = some x := fun j x hx => by
      have hadd : (⟨g, 0, none⟩ : Addr).add j = ⟨g, j, none⟩ := by unfold Addr.add; split <;> simp_all
      have hj : j < (acn Y).length := (List.getElem?_eq_some_iff.1 hx).1
      rw [hadd, hu.cellAt j (by have := hu.1; omega)]
      exact hx
    obtain ⟨v', w', hr, h2, h3, _, _⟩ := run_append_own_at (P := Try.prog) V V.heap.size 89 89 98 i (av (0, 0, 0)) 3 24 under27 hi hz hs hb rfl (by omega) (.slice none 0 0) 0 [] ho ⟨g, 0, none⟩ m cap (acn Y) hu.1 hnews (acn_one' Y) (by unfold maxLen; omega) hmul (Nat.le_refl _)
    rw [Nat.zero_add, List.nil_append] at h2
    obtain ⟨ao, cap, rfl, _⟩ := own_slice h2
    refine ⟨ao, cap, w', hr, h2, ⟨h3.os, h3.tape, h3.output, h3.size, fun k hk => ?_⟩⟩
    exact h3.block k (by omega) (fun hE => by simp [Value.ownBlock] at hE)
set_option maxRecDepth 100000 in
set_option maxHeartbeats 3200000 in
theorem rfork_arg (w : World) (r : Nat) (p c : Int) (h : ¬ FkOk p c) : Calls Try.prog 57 #[pq r, i64 p, i64 c] w fun e w' => e = .returned (i64 1) ∧ Below w.heap.size w w' := by
  have HB := hid (Below.refl w.heap.size w)
  by_cases h1 : p < 1
  · clear h
    go_enter Try.func57, Try.ntmps57
    go_wp2_with fail
    go_ret
    exact ⟨rfl, HB.out⟩
  · by_cases h2 : 6 < p
    · clear h
      go_enter Try.func57, Try.ntmps57
      go_wp2_with fail
      go_ret
      exact ⟨rfl, HB.out⟩
    · by_cases h3 : c < 1
      · clear h
        go_enter Try.func57, Try.ntmps57
        go_wp2_with fail
        go_ret
        exact ⟨rfl, HB.out⟩
      · by_cases h4 : 6 < c
        · clear h
          go_enter Try.func57, Try.ntmps57
          go_wp2_with fail
          go_ret
          exact ⟨rfl, HB.out⟩
        · have h5 : (p == c) = true := by
            rw [beq_iff_eq]
            by_cases e : p = c
            · exact e
            · exact absurd ⟨⟨by omega, by omega⟩, ⟨by omega, by omega⟩, e⟩ h
          clear h
          go_enter Try.func57, Try.ntmps57
          go_wp2_with fail
          go_ret
          exact ⟨rfl, HB.out⟩
set_option maxRecDepth 100000 in
set_option maxHeartbeats 3200000 in
theorem rfork_st {w : World} {base r : Nat} {L : List Ar} (p c : Int) (h : FkOk p c) (hR : Rb w base r L) (hl : L.length ≤ 1000) (hc : 0 < cntL L c) : Calls Try.prog 57 #[pq r, i64 p, i64 c] w fun e w' => e = .returned (i64 7) ∧ Below w.heap.size w w' := by
  obtain ⟨⟨p1, p2⟩, ⟨d1, d2⟩, hpc⟩ := h
  have h5 : (p == c) = false := beq_false_of_ne hpc
  have HR := hid hR
  have HCt := hid (rcount_ok hR hl c)
  have hbw := hR.lob
  clear hR hpc
  generalize cntL L c = C at *
  go_enter Try.func57, Try.ntmps57
  go_wp2_with fail
  refine HCt.out.mono ?_
  rintro e w1 ⟨rfl, hb1⟩
  have HB1 := hid hb1
  have HR1 := hid (HR.out.below hb1)
  clear hb1 HCt
  go_wp2_with fail
  go_ret
  exact ⟨rfl, HB1.out⟩
set_option maxRecDepth 100000 in
set_option maxHeartbeats 3200000 in
theorem rfork_ok {w : World} {base r : Nat} {L : List Ar} (p c : Int) (h : FkOk p c) (hR : Rb w base r L) (hl : L.length ≤ 1000) (hc : cntL L c = 0) : Calls Try.prog 57 #[pq r, i64 p, i64 c] w fun e w' => e = .returned (i64 0) ∧ Rb w' base r (forkL L p c) ∧ Fr base [91, 98] w w' := by
  obtain ⟨⟨p1, p2⟩, ⟨d1, d2⟩, hpc⟩ := h
  have h5 : (p == c) = false := beq_false_of_ne hpc
  have HR := hid hR
  have HCt := hid (rcount_ok hR hl c)
  have hbw := hR.lob
  rw [hc] at HCt
  clear hR hpc hc
  go_enter Try.func57, Try.ntmps57
  go_wp2_with fail
  refine HCt.out.mono ?_
  rintro e w1 ⟨rfl, hb1⟩
  have HB1 := hid hb1
  have HR1 := hid (HR.out.below hb1)
  clear hb1 HCt
  obtain ⟨hlo, ao, cap, hbk, hown⟩ := HR.out
  have hcap := own_cap hown
  obtain ⟨ao2, cap2, w2, hrun, ho2, hb2⟩ := app_all (V := w1) (own_keep1 hown fun k hk => HB1.out.block k (hown.lt k hk).2) hl
  have HRun := hid hrun
  have HB2 : Hid (Below w.heap.size w w2) := HB1.out.trans (hb2.mono HB1.out.size)
  have HO2 : Hid (w2.ownsRow w.heap.size 98 3 (.slice ao2 L.length cap2) L.length (acn L)) := own_low ho2 HB1.out.size
  have HRd0 : Hid (Rd3 w ao L) := Rd3.own hown
  have b0 : w1.cell? ⟨r, 0, none⟩ = some (.slice ao L.length cap) := blk_cell (blk_below hbk HB1.out) 0
  have HBk : Hid (w.heap[r]? = some (.cells #[.slice ao L.length cap] 91)) := hbk
  have b2 : w2.cell? ⟨r, 0, none⟩ = some (.slice ao L.length cap) := blk_cell (blk_below hbk HB2.out) 0
  obtain ⟨N, hN⟩ : ∃ N, N = L.length := ⟨_, rfl⟩
  have HN : Hid (N = L.length) := hN
  rw [← hN] at b0 b2 hl hcap HRun HO2
  clear hbk hown hrun ho2 hb2 hN
  go_wp2_with (at_builtin; refine wpList_app_run rfl (.tmp 33) (.tmp 37) 89 rfl _ _ rfl rfl 89 rfl _ _ HRun.out ?_)
  go_loopw [7, 44] (fun v i wr => ∃ (k n : Nat) (ao2 : Option Addr) (cap2 : Nat), k ≤ N ∧ n ≤ N + k ∧ i = i64 k ∧ v = .slice ao2 n cap2 ∧ Hid (n = (L ++ ((L.take k).filter (ofF p)).map (mv c)).length ∧ wr.ownsRow w.heap.size 98 3 (.slice ao2 n cap2) n (acn (L ++ ((L.take k).filter (ofF p)).map (mv c)))) ∧ Hid (Below w.heap.size w wr)) (fun _ i _ => N - (intOf i).toNat)
  case atStart => exact ⟨0, N, ao2, cap2, by omega, by omega, rfl, rfl, by simpa [Hid] using ⟨HN.out, HO2.out⟩, HB2⟩
  case round =>
    obtain ⟨k, n, ao3, cap3, hk, hn, rfl, rfl, HO, HB⟩ := hrel
    have HBw := HB
    by_cases hlt : k < N
    · have hkI : (k : Int) < N := by omega
      obtain ⟨e, he⟩ : ∃ e, L[k]? = some e := ⟨_, List.getElem?_eq_getElem (by rw [← HN.out]; exact hlt)⟩
      obtain ⟨g0, o, rfl, hgl, c0, c1, c2⟩ := HRd0.out.below HB.out k e he
      have HBV : Hid (Below w.heap.size w (wr.alloc (arO e 98))) := HB.out.alloc HB.out.size _
      have HEe := hid he
      clear he
      by_cases h1 : e.1 = p
      · have q1 : (e.1 == p) = true := beq_iff_eq.2 h1
        have hfe : ofF p e = true := ofF_iff.2 h1
        obtain ⟨ao4, cap4, w4, hrun, hown4, hfr4, _, _⟩ := app_far (te := 98) under27 info58x rfl (by omega) (by omega) (V := wr.alloc (arO e 98)) (HO.out.2.alloc _) (aC (mv c e)) rfl (aC_one _) (by omega) (Nat.le_trans HBw.out.size (by simp))
        have e1 : (wr.alloc (arO e 98)).heap.size = wr.heap.size + 1 := by simp
        rw [e1] at hrun
        have HRun4 : Hid ((Builtin.append_ #[89, 89] 89 #[.slice ao3 n cap3, .slice (some ⟨wr.heap.size + 1, 0, none⟩) 1 1]).run Try.prog ((wr.alloc (arO e 98)).alloc (arO (mv c e) 98)) = .ok (.slice ao4 (n + 1) cap4) w4) := hrun
        have HE : Hid (n + 1 = (L ++ ((L.take (k + 1)).filter (ofF p)).map (mv c)).length ∧ w4.ownsRow w.heap.size 98 3 (.slice ao4 (n + 1) cap4) (n + 1) (acn (L ++ ((L.take (k + 1)).filter (ofF p)).map (mv c)))) := by
          rw [flt_yes HEe.out hfe, List.map_append, ← List.append_assoc, acn_app, List.length_append, ← HO.out.1]
          exact ⟨rfl, by rw [show acn ([e].map (mv c)) = aC (mv c e) from acn_one _]; exact hown4⟩
        have HB4 : Hid (Below w.heap.size w w4) := HBV.out.trans hfr4.below
        clear hrun hown4 hfr4 e1 hfe h1
        go_wp2_with (at_builtin; refine wpList_app_run rfl (.tmp 52) (.tmp 59) 89 rfl _ _ rfl rfl 89 rfl _ _ HRun4.out ?_)
        exact ⟨⟨k + 1, n + 1, ao4, cap4, by omega, by omega, by go_num, rfl, HE, HB4⟩, by simp [intOf]; omega⟩
      · have q1 : (e.1 == p) = false := beq_false_of_ne h1
        have hfe : ofF p e = false := by simp [ofF, h1]
        have HE : Hid (n = (L ++ ((L.take (k + 1)).filter (ofF p)).map (mv c)).length ∧ (wr.alloc (arO e 98)).ownsRow w.heap.size 98 3 (.slice ao3 n cap3) n (acn (L ++ ((L.take (k + 1)).filter (ofF p)).map (mv c)))) := by
          rw [flt_no HEe.out hfe]
          exact ⟨HO.out.1, HO.out.2.alloc _⟩
        clear h1 hfe
        go_wp2_with fail
        exact ⟨⟨k + 1, n, ao3, cap3, by omega, by omega, by go_num, rfl, HE, HBV⟩, by simp [intOf]; omega⟩
    · have hE : n = (forkL L p c).length ∧ wr.ownsRow w.heap.size 98 3 (.slice ao3 n cap3) n (acn (forkL L p c)) := by
        have := HO.out
        rw [List.take_of_length_le (by rw [← HN.out]; omega)] at this
        exact this
      have HBr := hid ((HB.out.block r (blk_lt HBk.out)).trans HBk.out)
      have r0 : wr.cell? ⟨r, 0, none⟩ = some (.slice ao N cap) := by rw [HN.out]; exact blk_cell HBr.out 0
      have rf : wr.frozen? ⟨r, 0, none⟩ = false := blk_frozen HBr.out 0
      have HRb : Hid (Rb (wr.setCell ⟨r, 0, none⟩ (.slice ao3 n cap3)) base r (forkL L p c)) := set_rb hlo HBr.out hE.1 (own_low hE.2 hbw)
      have HFr : Hid (Fr base [91, 98] w (wr.setCell ⟨r, 0, none⟩ (.slice ao3 n cap3))) := set_fr hlo HBr.out HBw.out hbw
      clear hE
      go_wp2_with fail
      go_ret
      exact ⟨rfl, HRb.out, HFr.out⟩
def RightA (X : List Ar) (e : Ending) : Prop := (Good X ∧ e = .returned (.bool true)) ∨ (¬ Good X ∧ e = .returned (.bool false))
set_option maxRecDepth 100000 in
set_option maxHeartbeats 3200000 in
theorem right_ok (w : World) (ao : Option Addr) (cap : Nat) (X : List Ar) (hX : X.length ≤ 1000) (hR : Rd3 w ao X) : Calls Try.prog 52 #[.slice ao X.length cap] w fun e w' => RightA X e ∧ Below w.heap.size w w' := by
  have HR := hid hR
  have hz := zero29 w
  obtain ⟨b, hb⟩ : ∃ b, b = w.heap.size := ⟨_, rfl⟩
  have HBB := hid hb
  have HRb0 : Hid (Rb (w.alloc (.cells #[.slice none 0 0] 91)) b b []) := by rw [hb]; exact rb_new w _ (Nat.le_refl _)
  have HB0 : Hid (Below b w (w.alloc (.cells #[.slice none 0 0] 91))) := by rw [hb]; exact below_one w _
  rw [← hb]
  obtain ⟨N, hN⟩ : ∃ N, N = X.length := ⟨_, rfl⟩
  have HN := hid hN
  rw [← hN] at hX ⊢
  clear hR hN
  go_enter Try.func52, Try.ntmps52
  go_wp2_with fail
  rw [← hb]
  clear hb hz
  go_loopw [10] (fun u wr => ∃ (k : Nat), k ≤ N ∧ u = i64 k ∧ Hid (Rb wr b b (X.take k)) ∧ Hid (Good (X.take k)) ∧ Hid (Below b w wr)) (fun u _ => N - (intOf u).toNat)
  case atStart => exact ⟨0, by omega, rfl, HRb0, .nil, HB0⟩
  case round =>
    obtain ⟨k, hk, rfl, HLr, HGr, HBr⟩ := hrel
    by_cases hlt : k < N
    · have hkI : (k : Int) < N := by omega
      obtain ⟨x, hx⟩ : ∃ x, X[k]? = some x := ⟨_, List.getElem?_eq_getElem (by rw [← HN.out]; exact hlt)⟩
      obtain ⟨g, o, hao, hgl, c0, c1, c2⟩ := (HR.out.below (by rw [← HBB.out]; exact HBr.out)) k x hx
      subst hao
      have HXX := hid hx
      have HXb := hid (heap_last wr (arO x 98))
      have HBV : Hid (Below b w (wr.alloc (arO x 98))) := HBr.out.trans ((below_one wr _).mono HLr.out.lob)
      have HLV : Hid (Rb (wr.alloc (arO x 98)) b b (X.take k)) := HLr.out.below (below_one wr _)
      have hlk : (X.take k).length ≤ 1000 := Nat.le_trans (List.length_take_le _ _) (by omega)
      have HFi := hid (rfits_ok HLV.out hlk HGr.out.isA x)
      clear hx
      cases hf : fitB (X.take k) x
      · rw [hf] at HFi
        have HNG : Hid (¬ Good X) := not_good HXX.out (fun h => by have := (lay_fit.2 h).1; rw [hf] at this; cases this)
        clear hf
        go_wp2_with fail
        refine HFi.out.mono ?_
        rintro e w2 ⟨rfl, hb2⟩
        have HB2 : Hid (Below b w w2) := HBV.out.trans (hb2.mono HLV.out.lob)
        clear hb2 HFi
        go_wp2_with fail
        go_ret
        exact ⟨.inr ⟨HNG.out, rfl⟩, HB2.out⟩
      · rw [hf] at HFi
        have HCt := hid fun W (hW : Rb W b b (X.take k)) => rcount_ok hW hlk x.1
        obtain ⟨C, hC⟩ : ∃ C, C = cntL (X.take k) x.1 := ⟨_, rfl⟩
        rw [← hC] at HCt
        by_cases h4 : 3 < C
        · have HNG : Hid (¬ Good X) := not_good HXX.out (fun h => by have := (lay_fit.2 h).2; omega)
          clear hf hC
          go_wp2_with fail
          refine HFi.out.mono ?_
          rintro e w2 ⟨rfl, hb2⟩
          have HB2 : Hid (Below b w w2) := HBV.out.trans (hb2.mono HLV.out.lob)
          have HL2 := hid (HLV.out.below hb2)
          obtain ⟨y0, y1, y2⟩ := three_cells (blk_below HXb.out hb2)
          have hx2 : wr.heap.size < w2.heap.size := blk_lt (blk_below HXb.out hb2)
          have HCt2 := hid (HCt.out w2 HL2.out)
          clear hb2 HFi HCt
          go_wp2_with fail
          refine HCt2.out.mono ?_
          rintro e w3 ⟨rfl, hb3⟩
          have HB3 : Hid (Below b w w3) := HB2.out.trans (hb3.mono HL2.out.lob)
          clear hb3 HCt2
          go_wp2_with fail
          go_ret
          exact ⟨.inr ⟨HNG.out, rfl⟩, HB3.out⟩
        · have h4' : C ≤ 3 := by omega
          have hgy := lay_fit.1 ⟨hf, show cntL (X.take k) x.1 < 4 by omega⟩
          have HG2 : Hid (Good (X.take (k + 1))) := by rw [Hid, take_last HXX.out]; exact .snoc HGr.out hgy.1 hgy.2
          have HTL : Hid (X.take (k + 1) = X.take k ++ [x]) := take_last HXX.out
          have hlo : b ≤ wr.heap.size := HLr.out.lob
          clear hf hC hgy h4
          go_wp2_with fail
          refine HFi.out.mono ?_
          rintro e w2 ⟨rfl, hb2⟩
          have HB2 : Hid (Below b w w2) := HBV.out.trans (hb2.mono HLV.out.lob)
          have HL2 := hid (HLV.out.below hb2)
          obtain ⟨y0, y1, y2⟩ := three_cells (blk_below HXb.out hb2)
          have hx2 : wr.heap.size < w2.heap.size := blk_lt (blk_below HXb.out hb2)
          have HX2 := hid (blk_below HXb.out hb2)
          have HCt2 := hid (HCt.out w2 HL2.out)
          have hsz : (wr.alloc (arO x 98)).heap.size = wr.heap.size + 1 := by simp
          have HBd : Hid (Below (wr.heap.size + 1) (wr.alloc (arO x 98)) w2) := by rw [Hid, ← hsz]; exact hb2
          clear hb2 HFi HCt hsz
          go_wp2_with fail
          refine HCt2.out.mono ?_
          rintro e w3 ⟨rfl, hb3⟩
          have HB3 : Hid (Below b w w3) := HB2.out.trans (hb3.mono HL2.out.lob)
          have HX3 := hid (blk_below HX2.out hb3)
          have HL3 := hid (HL2.out.below hb3)
          have HBe : Hid (Below wr.heap.size wr w3) := (below_one wr _).trans ((HBd.out.mono (by omega)).trans (hb3.mono (by omega)))
          clear hb3 HCt2 y0 y1 y2 HBd
          obtain ⟨hlb, ao5, cap5, hbk, hown⟩ := HLr.out
          have hkb : ∀ q, (Value.slice ao5 (X.take k).length cap5).ownBlock = some q → q < wr.heap.size := fun q hq => (hown.lt q hq).2
          have HK3 : Hid (w3.heap[b]? = some (.cells #[.slice ao5 (X.take k).length cap5] 91)) := (HBe.out.block b (blk_lt hbk)).trans hbk
          have hown3 : w3.ownsRow b 98 3 (.slice ao5 (X.take k).length cap5) (X.take k).length (acn (X.take k)) := own_keep1 hown fun q hq => HBe.out.block q (hkb q hq)
          obtain ⟨ao6, cap6, w6, hrun, hown6, hfr6, hfar6, hob6⟩ := app_far (te := 98) under27 info58x rfl (by omega) (by omega) (V := w3.drew) (own_keep hown3 (fun _ _ h => h)) (aC x) rfl (aC_one _) (by omega) (Nat.le_trans hlo HBe.out.size)
          have HX6 : Hid (w6.heap[wr.heap.size]? = some (arO x 98)) := (hfar6 wr.heap.size (blk_lt HX3.out) (fun e => by have := hkb _ e.symm; omega)).trans HX3.out
          have HP6 : Hid (w6.heap[b]? = some (.cells #[.slice ao5 (X.take k).length cap5] 91)) := hfr6.kept _ _ HK3.out (by rfl)
          have HRUN := hid hrun
          have HOWN := hid hown6
          have HFR := hid hfr6
          have HFAR := hid hfar6
          have HOB := hid hob6
          have HS : Hid (SqL b wr.heap.size 91 98 (.slice ao5 (X.take k).length cap5) x w3.drew) := ⟨HK3.out, HX3.out⟩
          clear hrun hown6 hfr6 hfar6 hob6
          obtain ⟨n, hn⟩ : ∃ n, n = (X.take k).length := ⟨_, rfl⟩
          have HNn := hid hn
          rw [← hn] at HS HRUN HP6 HOWN HOB HK3 hlk
          clear hn hown hown3 hbk hkb
          go_upto_region 7 with fail
          refine wp_region_noPanic ?_
          refine wp_region_last (SqL b wr.heap.size 91 98 (.slice ao5 n cap5) x) 10 (by kernel_rfl) ?_
          refine wpL_take 0 25 (pq b) [] rfl rfl (by kernel_rfl) (by decide) (by kernel_rfl) (by kernel_rfl) (by kernel_rfl) (fun _ _ _ h => h) HS.out (by rfl) (fun W hW => by have s0 := blk_cell hW.1 0; obtain ⟨x0, x1, x2⟩ := three_cells hW.2; simp only [List.getElem?_toArray, List.getElem?_cons_zero] at s0; go_simp) ?_
          simp only [Act.put, List.setIfInBounds_toArray, List.set_cons_zero, List.set_cons_succ]
          refine wpL_take 1 26 (pq b) [] rfl rfl (by kernel_rfl) (by decide) (by kernel_rfl) (by kernel_rfl) (by kernel_rfl) (fun _ _ _ h => h) HS.out (by rfl) (fun W hW => by have s0 := blk_cell hW.1 0; obtain ⟨x0, x1, x2⟩ := three_cells hW.2; simp only [List.getElem?_toArray, List.getElem?_cons_zero] at s0; go_simp) ?_
          simp only [Act.put, List.setIfInBounds_toArray, List.set_cons_zero, List.set_cons_succ]
          refine wpL_take 2 27 (pq b) [] rfl rfl (by kernel_rfl) (by decide) (by kernel_rfl) (by kernel_rfl) (by kernel_rfl) (fun _ _ _ h => h) HS.out (by rfl) (fun W hW => by have s0 := blk_cell hW.1 0; obtain ⟨x0, x1, x2⟩ := three_cells hW.2; simp only [List.getElem?_toArray, List.getElem?_cons_zero] at s0; go_simp) ?_
          simp only [Act.put, List.setIfInBounds_toArray, List.set_cons_zero, List.set_cons_succ]
          refine wpL_take 3 28 (pq b) [] rfl rfl (by kernel_rfl) (by decide) (by kernel_rfl) (by kernel_rfl) (by kernel_rfl) (fun _ _ _ h => h) HS.out (by rfl) (fun W hW => by have s0 := blk_cell hW.1 0; obtain ⟨x0, x1, x2⟩ := three_cells hW.2; simp only [List.getElem?_toArray, List.getElem?_cons_zero] at s0; go_simp) ?_
          simp only [Act.put, List.setIfInBounds_toArray, List.set_cons_zero, List.set_cons_succ]
          refine wpL_take 4 29 (.slice ao5 n cap5) [] rfl rfl (by kernel_rfl) (by decide) (by kernel_rfl) (by kernel_rfl) (by kernel_rfl) (fun _ _ _ h => h) HS.out (by rfl) (fun W hW => by have s0 := blk_cell hW.1 0; obtain ⟨x0, x1, x2⟩ := three_cells hW.2; simp only [List.getElem?_toArray, List.getElem?_cons_zero] at s0; go_simp) ?_
          simp only [Act.put, List.setIfInBounds_toArray, List.set_cons_zero, List.set_cons_succ]
          refine wpL_take 5 30 (av x) [] rfl rfl (by kernel_rfl) (by decide) (by kernel_rfl) (by kernel_rfl) (by kernel_rfl) (fun _ _ _ h => h) HS.out (by rfl) (fun W hW => by have s0 := blk_cell hW.1 0; obtain ⟨x0, x1, x2⟩ := three_cells hW.2; simp only [List.getElem?_toArray, List.getElem?_cons_zero] at s0; go_simp) ?_
          simp only [Act.put, List.setIfInBounds_toArray, List.set_cons_zero, List.set_cons_succ]
          refine wpL_one 6 rfl (by kernel_rfl) (by rfl) (fun K hK => ?_)
          go_simp
          refine hK.out _ _ (fun _ => ⟨blk_alloc (w := w3.drew) HK3.out _, blk_alloc (w := w3.drew) HX3.out _⟩) ?_
          clear hK K
          refine wpL_one 7 rfl (by kernel_rfl) (by rfl) (fun K hK => ?_)
          refine wp_app_run (.tmp 29) (.tmp 31) 89 rfl _ _ rfl rfl 89 rfl _ _ HRUN.out ?_
          refine hK.out _ _ (fun _ => ⟨HP6.out, HX6.out⟩) ?_
          clear hK K
          refine wpL_one 8 rfl (by kernel_rfl) (by rfl) (fun K hK => ?_)
          go_simp
          refine hK.out _ _ (fun _ => ⟨HP6.out, HX6.out⟩) ?_
          clear hK K
          refine wpL_one 9 rfl (by kernel_rfl) (by rfl) (fun K hK => ?_)
          go_simp
          refine hK.out _ _ (fun _ => ⟨HP6.out, HX6.out⟩) ?_
          clear hK K
          refine wpL_one 10 rfl (by kernel_rfl) (by rfl) (fun K hK => ?_)
          have r0 : w6.cell? ⟨b, 0, none⟩ = some (.slice ao5 n cap5) := blk_cell HP6.out 0
          have rf : w6.frozen? ⟨b, 0, none⟩ = false := blk_frozen HP6.out 0
          go_simp
          refine hK.out _ _ (fun h => absurd rfl h) ?_
          clear hK K r0 rf
          refine wpL_done (by kernel_rfl) ?_
          refine NoPanic.normal ?_
          have HRf : Hid (Rb (w6.setCell ⟨b, 0, none⟩ (.slice ao6 (n + 1) cap6)) b b (X.take (k + 1))) := by
            rw [Hid, HTL.out]
            exact set_rb (Nat.le_refl _) HP6.out (by rw [List.length_append, ← HNn.out]; rfl) (by rw [acn_app, acn_one]; exact HOWN.out)
          have HBf : Hid (Below b w (w6.setCell ⟨b, 0, none⟩ (.slice ao6 (n + 1) cap6))) := by
            have h6 : Below b w3 w6 := ⟨HFR.out.below.os, HFR.out.below.tape, HFR.out.below.output, HFR.out.below.size, HFR.out.below.block⟩
            exact (HB3.out.trans h6).setCell (Nat.le_refl _) _
          generalize w6.setCell ⟨b, 0, none⟩ (.slice ao6 (n + 1) cap6) = U7 at *
          go_wp2_with fail
          exact ⟨⟨k + 1, by omega, by go_num, HRf, HG2, HBf⟩, by simp [intOf]; omega⟩
    · have hE : X.take k = X := List.take_of_length_le (by rw [← HN.out]; omega)
      rw [hE] at HLr HGr
      clear hE
      go_wp2_with fail
      go_ret
      exact ⟨.inl ⟨HGr.out, rfl⟩, HBr.out⟩
end Go.Proofs.Ytlkcpjefgelcoaa
