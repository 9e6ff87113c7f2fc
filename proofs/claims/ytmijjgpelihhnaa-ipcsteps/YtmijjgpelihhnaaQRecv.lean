/- imagoref12.Post's Receive: its contract; no statement is proved in this text. -/
import Derived.Test.YtmijjgpelihhnaaQSend
namespace Go.Proofs.Ytmijjgpelihhnaa
open Go.ChangeShapes Go.WideShapes Go.ChangeAt Go.RowKit Go.Deep
attribute [local go_sem ↓] Go.wp_at_zero Go.wp_at_succ

theorem load36 {W : World} {b : Nat} {m : Mg} (h : W.heap[b]? = some (mgO m)) : (loadVar 36 ⟨b, 0, none⟩).run Try.prog W = .ok (mgV m) W := by
  refine run_loadVar_mid _ _ 0 36 m.l _ (fun j v hv => ?_) Try.underlying36 rfl (by kernel_rfl)
  rw [Nat.zero_add, cell_of_row _ _ _ _ 36 (0, 0) h]
  simpa using hv
theorem set3 {V : World} {b : Nat} {x y z : Value} {t : TypeId} (h : V.heap[b]? = some (.cells #[x, y, z] t)) (s g u : Value) : (((V.setCell ⟨b, 0, none⟩ s).setCell ⟨b, 1, none⟩ g).setCell ⟨b, 2, none⟩ u).heap[b]? = some (.cells #[s, g, u] t) := by
  have h1 := heap_setCell_same V b 0 _ t s h
  have h2 := heap_setCell_same _ b 1 _ t g h1
  have h3 := heap_setCell_same _ b 2 _ t u h2
  simpa using h3
theorem rapp {V : World} {base : Nat} {v : Value} {L1 : List Mg} (ho : V.ownsRow base 36 3 v L1.length (rcs L1)) (L2 : List Mg) (ad : Addr) (c : Nat) (hnews : ∀ j u, (rcs L2)[j]? = some u → V.cell? (ad.add j) = some u) (hl : L1.length + L2.length ≤ 12) (hB : base ≤ V.heap.size) :
    ∃ v' w', (Builtin.append_ #[27, 27] 27 #[v, .slice (some ad) L2.length c]).run Try.prog V = .ok v' w' ∧ w'.ownsRow base 36 3 v' (L1 ++ L2).length (rcs (L1 ++ L2)) ∧ Fr base [36] V w' := by
  obtain ⟨i, hi, hz, hs, hby⟩ := info_parts info36x
  obtain ⟨v', w', hr, h2, h3, _, _⟩ := run_append_own_at (P := Try.prog) V base 27 27 36 i (.agg #[i64 0, i64 0, i64 0]) 3 24 under27 hi hz hs hby rfl (by omega) v L1.length (rcs L1) ho ad L2.length c (rcs L2) (rcs_len L2) hnews (rcs_one L2) (by unfold maxLen; omega) (by omega) hB
  rw [← rcs_app, ← List.length_append] at h2
  refine ⟨v', w', hr, h2, ⟨⟨h3.os, h3.tape, h3.output, h3.size, fun k hk => h3.block k (by omega) (fun e => by have := (ho.lt k e.symm).1; omega)⟩, fun k o hk hko => ?_⟩⟩
  rw [h3.block k (blk_lt hk) (fun e => ?_)]
  · exact hk
  · rcases ho.2 with ⟨rfl, _⟩ | ⟨g, cap, cur, rfl, _, hgg, _⟩
    · simp [Value.ownBlock] at e
    · simp [Value.ownBlock] at e
      subst e
      rw [hgg] at hk
      cases hk
      simp [keeps] at hko
theorem rcs_pre (L : List Mg) (k : Nat) : ∀ (j : Nat) u, (rcs (L.take k))[j]? = some u → (rcs L)[j]? = some u := fun j u hu => by
  have : rcs L = rcs (L.take k) ++ rcs (L.drop k) := by rw [← rcs_app, List.take_append_drop]
  rw [this, List.getElem?_append_left (List.getElem?_eq_some_iff.1 hu).1]
  exact hu
theorem rcs_suf (L : List Mg) (k : Nat) (hk : k ≤ L.length) : ∀ (j : Nat) u, (rcs (L.drop k))[j]? = some u → (rcs L)[k * 3 + j]? = some u := fun j u hu => by
  have : rcs L = rcs (L.take k) ++ rcs (L.drop k) := by rw [← rcs_app, List.take_append_drop]
  have hl : (rcs (L.take k)).length = k * 3 := by rw [rcs_len, List.length_take, Nat.min_eq_left hk]
  rw [this, List.getElem?_append_right (by omega), hl, Nat.add_sub_cancel_left]
  exact hu
abbrev mg0 : Mg := ⟨0, 0, 0⟩
set_option maxRecDepth 100000 in
set_option maxHeartbeats 1600000 in
theorem rrecv_arg (w : World) (r : Nat) (n : Int) (hn : envB n = false) : Calls Try.prog 12 #[pq r, i64 n] w fun e w' => e = .returned (.tuple #[mgV mg0, i64 1]) ∧ Below w.heap.size w w' := by
  have HA : Hid (∀ V, Calls Try.prog 17 #[i64 n] V fun e w' => e = .returned (.bool false) ∧ w' = V) := fun V => by have := env_ok V n; rw [hn] at this; exact this
  have HB : Hid (Below w.heap.size w (w.alloc (mgO mg0))) := below_one w _
  have HX : Hid ((w.alloc (mgO mg0)).heap[w.heap.size]? = some (mgO mg0)) := heap_last w _
  clear hn
  go_enter Try.func12, Try.ntmps12
  go_wp2_with fail
  refine (HA.out _).mono ?_
  rintro e v1 ⟨rfl, hv⟩
  subst hv
  go_wp2_with fail
  have g := load36 HX.out
  exact bodyPost_ret (v := .tuple #[mgV mg0, i64 1]) (results_cell rfl rfl rfl g) rfl ⟨rfl, HB.out⟩
def fstB (L : List Mg) (n : Int) (k : Nat) : Prop := ∀ (j : Nat) x, j < k → L[j]? = some x → x.tt ≠ n
/-- What Receive comes to. -/
def RvTo (w : World) (base r : Nat) (L : List Mg) (n : Int) (e : Ending) (w' : World) : Prop :=
  (fstB L n L.length ∧ e = .returned (.tuple #[mgV mg0, i64 6]) ∧ Rb w' base r L ∧ Fr base [29, 36] w w') ∨ ∃ (k : Nat) (m : Mg), L[k]? = some m ∧ m.tt = n ∧ fstB L n k ∧ e = .returned (.tuple #[mgV m, i64 0]) ∧ Rb w' base r (L.take k ++ L.drop (k + 1)) ∧ Fr base [29, 36] w w'
set_option maxRecDepth 100000 in
set_option maxHeartbeats 6400000 in
theorem rrecv_ok {w : World} {base r : Nat} {L : List Mg} (h : Rb w base r L) (hl : L.length ≤ 12) (n : Int) (hn : envB n = true) :
    Calls Try.prog 12 #[pq r, i64 n] w fun e w' => RvTo w base r L n e w' := by
  have HA : Hid (∀ V, Calls Try.prog 17 #[i64 n] V fun e w' => e = .returned (.bool true) ∧ w' = V) := fun V => by have := env_ok V n; rw [hn] at this; exact this
  have HR : Hid (Rb w base r L) := h
  have hlo := h.los
  obtain ⟨ao, cap, hbk, hown, hcap, _⟩ := h.row
  obtain ⟨N, hN⟩ : ∃ N, N = L.length := ⟨_, rfl⟩
  have HN : Hid (N = L.length) := hN
  rw [← hN] at hbk hl hcap
  have HK : Hid (w.heap[r]? = some (.cells #[.slice ao N cap] 29)) := hbk
  have HK1 : Hid ((w.alloc (mgO mg0)).heap[r]? = some (.cells #[.slice ao N cap] 29)) := blk_alloc hbk _
  have HX0 : Hid ((w.alloc (mgO mg0)).heap[w.heap.size]? = some (mgO mg0)) := heap_last w _
  have HB0 : Hid (Below w.heap.size w (w.alloc (mgO mg0))) := below_one w _
  have hrw : r < w.heap.size := h.lt
  have HOB : Hid (∀ j, (Value.slice ao N cap).ownBlock = some j → j < w.heap.size) := fun j hj => by
    rw [hN] at hj
    have := (hown.lt j hj).2
    omega
  have hcI : (N : Int) ≤ cap := by omega
  have hNI : (N : Int) ≤ 12 := by omega
  clear h hbk hown hN hn
  go_enter Try.func12, Try.ntmps12
  go_upto_region 1 with fail
  generalize w.alloc (mgO mg0) = V at *
  have b0 : V.cell? ⟨r, 0, none⟩ = some (.slice ao N cap) := blk_cell HK1.out 0
  go_wp2_with fail
  refine (HA.out _).mono ?_
  rintro e v1 ⟨rfl, hv⟩
  replace hv := hv.symm
  subst hv
  go_wp2_with fail
  go_loopw [18] (fun i wr => ∃ k : Nat, k ≤ N ∧ i = i64 k ∧ Hid (Below V.heap.size V wr) ∧ Hid (fstB L n k)) (fun i _ => N - (intOf i).toNat)
  case atStart => exact ⟨0, by omega, rfl, Below.refl _ _, fun j x hj => by omega⟩
  case round =>
    obtain ⟨k, hk, rfl, HB, HO⟩ := hrel
    have HBw : Hid (Below w.heap.size w wr) := HB0.out.trans (HB.out.mono HB0.out.size)
    have HXr : Hid (wr.heap[w.heap.size]? = some (mgO mg0)) := blk_below HX0.out HB.out
    have HKr : Hid (wr.heap[r]? = some (.cells #[.slice ao N cap] 29)) := blk_below HK1.out HB.out
    by_cases hlt : k < N
    · have hlt2 : k < L.length := by rw [← HN.out]; exact hlt
      obtain ⟨p, hp⟩ : ∃ p, L[k]? = some p := ⟨_, List.getElem?_eq_getElem hlt2⟩
      have hRr := HR.out.below HBw.out
      obtain ⟨ao', cap', hbk', hown', hcap', hrow⟩ := hRr.row
      have hs := HKr.out.symm.trans hbk'
      simp only [Option.some.injEq, Obj.cells.injEq, Array.mk.injEq, List.cons.injEq, Value.slice.injEq, and_true] at hs
      obtain ⟨rfl, hNN, rfl⟩ := hs
      clear hNN
      obtain ⟨g, rfl, hbg, hgl, _, hc⟩ := hrow k p hp
      have c0 : wr.cell? ⟨g, k * 3, none⟩ = some (i64 p.fr) := hc 0 (by omega)
      have c1 : wr.cell? ⟨g, k * 3 + 1, none⟩ = some (i64 p.tt) := hc 1 (by omega)
      have c2 : wr.cell? ⟨g, k * 3 + 2, none⟩ = some (i64 p.wd) := hc 2 (by omega)
      by_cases he : p.tt = n
      · have hq : (p.tt == n) = true := by simpa using he
        have hadd : ∀ o j, (⟨g, o, none⟩ : Addr).add j = ⟨g, o + j, none⟩ := fun o j => Addr.add_mid g o j
        have hcells : ∀ (j : Nat) u, (rcs L)[j]? = some u → wr.cell? ⟨g, j, none⟩ = some u := fun j u hu => by
          have := hown'.cells (g := g) rfl j u hu
          rw [hadd, Nat.zero_add] at this
          exact this
        have hszW : (wr.alloc (mgO p)).heap.size = wr.heap.size + 1 := by simp
        have hwr : w.heap.size < wr.heap.size := blk_lt HXr.out
        obtain ⟨v2, w2, hrun1, hown2, hfr2⟩ := rapp (V := wr.alloc (mgO p)) (base := wr.heap.size + 1) (v := .slice none 0 0) (L1 := []) (World.ownsRow_nil _ _ 36 3) (L.take k) ⟨g, 0, none⟩ cap (fun j u hu => by rw [hadd, Nat.zero_add]; exact cell_keep (hcells j u (rcs_pre L k j u hu)) _) (by simp; have := HN.out; omega) (by omega)
        have hlt' : (L.take k).length = k := by rw [List.length_take]; omega
        have hld : (L.drop (k + 1)).length = L.length - (k + 1) := List.length_drop
        simp only [List.nil_append] at hown2
        obtain ⟨o2, c2', hsl⟩ : ∃ o2 c2, (cap = k + 1 ∧ o2 = 0 ∧ c2 = 0) ∨ (¬ cap = k + 1 ∧ o2 = (k + 1) * 3 ∧ c2 = cap - (k + 1)) := by
          by_cases hc : cap = k + 1
          · exact ⟨0, 0, Or.inl ⟨hc, rfl, rfl⟩⟩
          · exact ⟨_, _, Or.inr ⟨hc, rfl, rfl⟩⟩
        have hb2 : Below (wr.heap.size + 1) (wr.alloc (mgO p)) w2 := hfr2.below
        have hs2 := hb2.size
        rw [hszW] at hs2
        obtain ⟨v3, w3, hrun2, hown3, hfr3⟩ := rapp hown2 (L.drop (k + 1)) ⟨g, o2, none⟩ c2' (fun j u hu => by
          rcases hsl with ⟨hc, rfl, _⟩ | ⟨_, rfl, _⟩
          · rw [List.drop_eq_nil_of_le (by have := HN.out; omega)] at hu
            simp [rcs] at hu
          · rw [hadd, hb2.cell (by show g < wr.heap.size + 1; omega)]; exact cell_keep (hcells _ u (rcs_suf L (k + 1) (by omega) j u hu)) _) (by rw [hlt', hld]; have := HN.out; omega) (by omega)
        have hb3 : Below (wr.heap.size + 1) (wr.alloc (mgO p)) w3 := hb2.trans hfr3.below
        obtain ⟨ao3, cap3, rfl, _⟩ := own_slice hown3
        rw [hlt'] at hrun1
        rw [hld, ← HN.out] at hrun2
        obtain ⟨M, hM⟩ : ∃ M, (L.take k ++ L.drop (k + 1)).length = M := ⟨_, rfl⟩
        rw [hM] at hrun2
        have hbW : (wr.alloc (mgO p)).heap[r]? = some (.cells #[.slice (some ⟨g, 0, none⟩) N cap] 29) := blk_alloc HKr.out _
        have hbk2 : w2.heap[r]? = some (.cells #[.slice (some ⟨g, 0, none⟩) N cap] 29) := (hb2.block r (by omega)).trans hbW
        have hbk3 : w3.heap[r]? = some (.cells #[.slice (some ⟨g, 0, none⟩) N cap] 29) := (hb3.block r (by omega)).trans hbW
        have b1 : (wr.alloc (mgO p)).cell? ⟨r, 0, none⟩ = some (.slice (some ⟨g, 0, none⟩) N cap) := blk_cell hbW 0
        have b2 : w2.cell? ⟨r, 0, none⟩ = some (.slice (some ⟨g, 0, none⟩) N cap) := blk_cell hbk2 0
        have b3 : w3.cell? ⟨r, 0, none⟩ = some (.slice (some ⟨g, 0, none⟩) N cap) := blk_cell hbk3 0
        have f3 : w3.frozen? ⟨r, 0, none⟩ = false := blk_frozen hbk3 0
        have hX3 : w3.heap[wr.heap.size]? = some (mgO p) := (hb3.block _ (by omega)).trans (heap_last wr _)
        have hZ3 : w3.heap[w.heap.size]? = some (mgO mg0) := (hb3.block _ (by omega)).trans (blk_alloc HXr.out _)
        have x0 : (wr.alloc (mgO p)).cell? ⟨wr.heap.size, 1, none⟩ = some (i64 p.tt) := blk_cell (heap_last wr _) 1
        obtain ⟨w4, hw4⟩ : ∃ w4, w4 = w3.setCell ⟨r, 0, none⟩ (.slice ao3 M cap3) := ⟨_, rfl⟩
        have hne4 : ∀ j, j ≠ r → w4.heap[j]? = w3.heap[j]? := fun j hj => by rw [hw4]; exact Below.heap_setCell _ _ _ _ hj
        have hX4 : w4.heap[wr.heap.size]? = some (mgO p) := by rw [hne4 _ (by omega)]; exact hX3
        have hZ4 : w4.heap[w.heap.size]? = some (mgO mg0) := by rw [hne4 _ (by omega)]; exact hZ3
        have hR4 : w4.heap[r]? = some (.cells #[.slice ao3 M cap3] 29) := by rw [hw4]; exact heap_setCell_same w3 r 0 _ 29 _ hbk3
        have HF : Hid (Rb (((w4.setCell ⟨w.heap.size, 0, none⟩ (i64 p.fr)).setCell ⟨w.heap.size, 1, none⟩ (i64 p.tt)).setCell ⟨w.heap.size, 2, none⟩ (i64 p.wd)) base r (L.take k ++ L.drop (k + 1)) ∧ Fr base [29, 36] w (((w4.setCell ⟨w.heap.size, 0, none⟩ (i64 p.fr)).setCell ⟨w.heap.size, 1, none⟩ (i64 p.tt)).setCell ⟨w.heap.size, 2, none⟩ (i64 p.wd))) := by
          have hne5 : ∀ j, j ≠ w.heap.size → (((w4.setCell ⟨w.heap.size, 0, none⟩ (i64 p.fr)).setCell ⟨w.heap.size, 1, none⟩ (i64 p.tt)).setCell ⟨w.heap.size, 2, none⟩ (i64 p.wd)).heap[j]? = w4.heap[j]? := fun j hj => by rw [Below.heap_setCell _ _ _ _ hj, Below.heap_setCell _ _ _ _ hj, Below.heap_setCell _ _ _ _ hj]
          refine ⟨⟨HR.out.lo, .slice ao3 M cap3, by rw [hne5 r (by omega)]; exact hR4, ?_⟩, ?_⟩
          · have h1 : w3.ownsRow (wr.heap.size + 1) 36 3 (.slice ao3 M cap3) (L.take k ++ L.drop (k + 1)).length (rcs (L.take k ++ L.drop (k + 1))) := by rw [← hM]; exact hown3
            refine own_low (own_keep1 h1 (fun j hj => ?_)) (by omega)
            have hjl := (h1.lt j hj).1
            rw [hne5 j (by omega), hne4 j (by omega)]
          · have e1 : Fr base [29, 36] w w3 := Fr.of_below _ (HBw.out.trans ((below_one wr (mgO p)).mono (by omega)) |>.trans (hb3.mono (by omega))) hlo
            have e2 : Fr base [29, 36] w3 w4 := by rw [hw4]; exact Fr.of_touch ((Touch.refl r w3).setCell rfl _) hbk3 (by rfl) HR.out.lo
            exact (e1.trans e2).trans (Fr.of_touch ((((Touch.refl w.heap.size w4).setCell rfl _).setCell rfl _).setCell rfl _) hZ4 (by rfl) hlo)
        have HR1 : Hid ((Builtin.append_ #[27, 27] 27 #[.slice none 0 0, .slice (some ⟨g, 0, none⟩) k cap]).run Try.prog (wr.alloc (mgO p)) = .ok v2 w2) := hrun1
        have HR2 : Hid ((Builtin.append_ #[27, 27] 27 #[v2, .slice (some ⟨g, o2, none⟩) (N - (k + 1)) c2']).run Try.prog w2 = .ok (.slice ao3 M cap3) w3) := hrun2
        have HW4 := hid hw4
        have HX4 := hid hX4
        have HZ4 := hid hZ4
        have HPp := hid hp
        have HEq := hid he
        have hkI : (k : Int) + 1 ≤ cap := by omega
        have hkN : (k : Int) + 1 ≤ N := by omega
        clear he hp hrow hc hbk' hown' hRr hcells hadd hrun1 hown2 hfr2 hb2 hrun2 hown3 hfr3 hb3 hM hbW hbk2 hbk3 hX3 hZ3 hw4 hne4 hX4 hZ4 hR4 hlt' hld
        rcases hsl with ⟨hc, rfl, rfl⟩ | ⟨hc, rfl, rfl⟩
        all_goals
          go_upto_region 11 with (at_builtin; first | refine wpList_app_run rfl (.tmp 27) (.tmp 33) 27 rfl _ _ rfl rfl 27 rfl _ _ HR1.out ?_ | refine wpList_app_run rfl (.tmp 35) (.tmp 42) 27 rfl _ _ rfl rfl 27 rfl _ _ HR2.out ?_)
          rw [← HW4.out]
          have u0 : w4.cell? ⟨wr.heap.size, 0, none⟩ = some (i64 p.fr) := blk_cell HX4.out 0
          have u1 : w4.cell? ⟨wr.heap.size, 1, none⟩ = some (i64 p.tt) := blk_cell HX4.out 1
          have u2 : w4.cell? ⟨wr.heap.size, 2, none⟩ = some (i64 p.wd) := blk_cell HX4.out 2
          have z0 : w4.cell? ⟨w.heap.size, 0, none⟩ = some (i64 0) := blk_cell HZ4.out 0
          have z1 : w4.cell? ⟨w.heap.size, 1, none⟩ = some (i64 0) := blk_cell HZ4.out 1
          have z2 : w4.cell? ⟨w.heap.size, 2, none⟩ = some (i64 0) := blk_cell HZ4.out 2
          have zf : ∀ j, w4.frozen? ⟨w.heap.size, j, none⟩ = false := blk_frozen HZ4.out
          go_wp2_with fail
          have gl := load36 (m := p) (set3 HZ4.out (i64 p.fr) (i64 p.tt) (i64 p.wd))
          exact bodyPost_ret (v := .tuple #[mgV p, i64 0]) (results_cell rfl rfl rfl gl) rfl (Or.inr ⟨k, p, HPp.out, HEq.out, HO.out, rfl, HF.out.1, HF.out.2⟩)
      · have hq : (p.tt == n) = false := by simpa using he
        have HE : Hid (fstB L n (k + 1)) := fun j x hj hx => by
          by_cases hjk : j = k
          · subst hjk
            rw [hp] at hx
            cases hx
            exact he
          · exact HO.out j x (by omega) hx
        have HBA : Hid (Below V.heap.size V (wr.alloc (mgO p))) := HB.out.alloc HB.out.size _
        clear he hp hrow hc hbk' hown' hRr
        go_wp2_with fail
        exact ⟨⟨k + 1, by omega, by go_num, HBA, HE⟩, by simp [intOf]; omega⟩
    · have z0 : wr.cell? ⟨w.heap.size, 0, none⟩ = some (i64 0) := blk_cell HXr.out 0
      have z1 : wr.cell? ⟨w.heap.size, 1, none⟩ = some (i64 0) := blk_cell HXr.out 1
      have z2 : wr.cell? ⟨w.heap.size, 2, none⟩ = some (i64 0) := blk_cell HXr.out 2
      have zf : ∀ j, wr.frozen? ⟨w.heap.size, j, none⟩ = false := blk_frozen HXr.out
      have HF : Hid (Rb (((wr.setCell ⟨w.heap.size, 0, none⟩ (i64 0)).setCell ⟨w.heap.size, 1, none⟩ (i64 0)).setCell ⟨w.heap.size, 2, none⟩ (i64 0)) base r L ∧ Below w.heap.size w (((wr.setCell ⟨w.heap.size, 0, none⟩ (i64 0)).setCell ⟨w.heap.size, 1, none⟩ (i64 0)).setCell ⟨w.heap.size, 2, none⟩ (i64 0))) := by
        have hb := ((HBw.out.setCell (p := ⟨w.heap.size, 0, none⟩) (Nat.le_refl _) (i64 0)).setCell (p := ⟨w.heap.size, 1, none⟩) (Nat.le_refl _) (i64 0)).setCell (p := ⟨w.heap.size, 2, none⟩) (Nat.le_refl _) (i64 0)
        exact ⟨HR.out.below hb, hb⟩
      go_wp2_with fail
      have g := load36 (m := mg0) (set3 HXr.out (i64 0) (i64 0) (i64 0))
      exact bodyPost_ret (v := .tuple #[mgV mg0, i64 6]) (results_cell rfl rfl rfl g) rfl (Or.inl ⟨fun j x hj hx => HO.out j x (by have := HN.out; omega) hx, rfl, HF.out.1, Fr.of_below _ HF.out.2 hlo⟩)
end Go.Proofs.Ytmijjgpelihhnaa
