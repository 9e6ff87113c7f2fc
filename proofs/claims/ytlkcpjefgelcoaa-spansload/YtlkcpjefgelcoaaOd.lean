/- Fork; no statement is proved in this text. -/
import Derived.Test.YtlkcpjefgelcoaaOc
namespace Go.Proofs.Ytlkcpjefgelcoaa
open Go.ChangeShapes Go.WideShapes Go.ChangeAt Go.RowKit Go.Deep
attribute [local go_sem ↓] Go.wp_at_zero Go.wp_at_succ

def FkOk (p c : Int) : Prop := (1 ≤ p ∧ p ≤ 6) ∧ (1 ≤ c ∧ c ≤ 6) ∧ p ≠ c
set_option maxRecDepth 100000 in
set_option maxHeartbeats 3200000 in
theorem fork_arg (w : World) (pv : Value) (p c : Int) (h : ¬ FkOk p c) : Calls Try.prog 23 #[pv, i64 p, i64 c] w fun e w' => e = .returned (i64 1) ∧ Below w.heap.size w w' := by
  have HB := hid (Below.refl w.heap.size w)
  have HC1 := hid (isProc_ok w p)
  have HC2 := hid (isProc_ok w c)
  by_cases h1 : 1 ≤ p ∧ p ≤ 6
  · rw [decide_eq_true h1] at HC1
    by_cases h2 : 1 ≤ c ∧ c ≤ 6
    · rw [decide_eq_true h2] at HC2
      have h3 : (p == c) = true := by
        rw [beq_iff_eq]
        by_cases e : p = c
        · exact e
        · exact absurd ⟨h1, h2, e⟩ h
      clear h h1 h2
      go_enter Try.func23, Try.ntmps23
      go_wp2_with fail
      refine HC1.out.mono ?_
      rintro e w1 ⟨rfl, hw1⟩
      replace hw1 := hw1.symm
      subst hw1
      go_wp2_with fail
      refine HC2.out.mono ?_
      rintro e w2 ⟨rfl, hw2⟩
      replace hw2 := hw2.symm
      subst hw2
      go_wp2_with fail
      go_ret
      exact ⟨rfl, HB.out⟩
    · rw [decide_eq_false h2] at HC2
      clear h h1 h2
      go_enter Try.func23, Try.ntmps23
      go_wp2_with fail
      refine HC1.out.mono ?_
      rintro e w1 ⟨rfl, hw1⟩
      replace hw1 := hw1.symm
      subst hw1
      go_wp2_with fail
      refine HC2.out.mono ?_
      rintro e w2 ⟨rfl, hw2⟩
      replace hw2 := hw2.symm
      subst hw2
      go_wp2_with fail
      go_ret
      exact ⟨rfl, HB.out⟩
  · rw [decide_eq_false h1] at HC1
    clear h h1 HC2
    go_enter Try.func23, Try.ntmps23
    go_wp2_with fail
    refine HC1.out.mono ?_
    rintro e w1 ⟨rfl, hw1⟩
    replace hw1 := hw1.symm
    subst hw1
    go_wp2_with fail
    go_ret
    exact ⟨rfl, HB.out⟩
set_option maxRecDepth 100000 in
set_option maxHeartbeats 3200000 in
theorem fork_nil (w : World) (p c : Int) (h : FkOk p c) : Calls Try.prog 23 #[.pointer none, i64 p, i64 c] w fun e w' => e = .returned (i64 7) ∧ Below w.heap.size w w' := by
  have HB := hid (Below.refl w.heap.size w)
  have HC1 := hid (isProc_ok w p)
  have HC2 := hid (isProc_ok w c)
  rw [decide_eq_true h.1] at HC1
  rw [decide_eq_true h.2.1] at HC2
  have h3 : (p == c) = false := beq_false_of_ne h.2.2
  have HFk := hid h
  clear h
  go_enter Try.func23, Try.ntmps23
  go_wp2_with fail
  refine HC1.out.mono ?_
  rintro e w1 ⟨rfl, hw1⟩
  replace hw1 := hw1.symm
  subst hw1
  go_wp2_with fail
  refine HC2.out.mono ?_
  rintro e w2 ⟨rfl, hw2⟩
  replace hw2 := hw2.symm
  subst hw2
  go_wp2_with fail
  go_ret
  exact ⟨rfl, HB.out⟩
set_option maxRecDepth 100000 in
set_option maxHeartbeats 3200000 in
theorem fork_st (w : World) (base P : Nat) (L : List Ar) (p c : Int) (h : FkOk p c) (hL : Lb w base P L) (hl : L.length ≤ 1000) (hc : 0 < cntL L c) : Calls Try.prog 23 #[pq P, i64 p, i64 c] w fun e w' => e = .returned (i64 7) ∧ Below w.heap.size w w' := by
  have HC1 := hid (isProc_ok w p)
  have HC2 := hid (isProc_ok w c)
  rw [decide_eq_true h.1] at HC1
  rw [decide_eq_true h.2.1] at HC2
  have h3 : (p == c) = false := beq_false_of_ne h.2.2
  have HFk := hid h
  clear h
  have HB0 := hid (Below.refl w.heap.size w)
  have HLv := hid hL.lv
  have HCn := hid hc
  clear hL hc
  go_enter Try.func23, Try.ntmps23
  go_wp2_with fail
  refine HC1.out.mono ?_
  rintro e w1 ⟨rfl, hw1⟩
  replace hw1 := hw1.symm
  subst hw1
  go_wp2_with fail
  refine HC2.out.mono ?_
  rintro e w2 ⟨rfl, hw2⟩
  replace hw2 := hw2.symm
  subst hw2
  go_wp2_with fail
  refine (of_mk2 _ c).mono ?_
  rintro e w3 ⟨q, rfl, hcq, hbw3⟩
  have HBw3 : Hid (Below w.heap.size w w3) := HB0.out.trans (hbw3.mono HB0.out.size)
  have HCw3 := hid (those42 w3 base (pq P) L (HLv.out.below HBw3.out) hl q (ofF c) (fun W z ha hW => of_cl W z q c ((hW.cell (World.block_lt_of_cell? _ _ hcq)).trans hcq)))
  clear hbw3 hcq
  go_wp2_with fail
  refine HCw3.out.mono ?_
  rintro e w4 ⟨⟨aow4, capw4, rfl, hownw4⟩, hbw4⟩
  have HBw4 : Hid (Below w.heap.size w w4) := HBw3.out.trans (hbw4.mono HBw3.out.size)
  have HOw4 := hid hownw4
  obtain ⟨n, hnn⟩ : ∃ n, n = (L.filter (ofF c)).length := ⟨_, rfl⟩
  have HNn := hid hnn
  rw [← hnn] at HOw4 ⊢
  clear hbw4 hownw4 HCw3 hnn
  have hn0 : 0 < n := by rw [HNn.out]; exact HCn.out
  go_wp2_with fail
  go_ret
  exact ⟨rfl, HBw4.out⟩
def Apt (wr : World) (ao : Option Addr) (P : Nat) (v : Value) : Prop := ∀ g o, ao = some ⟨g, o, none⟩ → v.ownBlock ≠ some g ∧ g ≠ P ∧ g < wr.heap.size
set_option maxRecDepth 100000 in
set_option maxHeartbeats 3200000 in
theorem fork_ok (w : World) (base P : Nat) (L : List Ar) (p c : Int) (h : FkOk p c) (hL : Lb w base P L) (hg : Good L) (hc : cntL L c = 0) : Calls Try.prog 23 #[pq P, i64 p, i64 c] w fun e w' => e = .returned (i64 0) ∧ Lb w' base P (forkL L p c) ∧ Fr base [75, 79] w w' := by
  have HC1 := hid (isProc_ok w p)
  have HC2 := hid (isProc_ok w c)
  rw [decide_eq_true h.1] at HC1
  rw [decide_eq_true h.2.1] at HC2
  have h3 : (p == c) = false := beq_false_of_ne h.2.2
  have HFk := hid h
  clear h
  have HB0 := hid (Below.refl w.heap.size w)
  have hl : L.length ≤ 1000 := Nat.le_trans hg.len (by omega)
  have HLv := hid hL.lv
  have HL := hid hL
  have HG := hid hg
  have HCn := hid hc
  have hbw := hL.lob
  clear hL hc hg
  go_enter Try.func23, Try.ntmps23
  go_wp2_with fail
  refine HC1.out.mono ?_
  rintro e w1 ⟨rfl, hw1⟩
  replace hw1 := hw1.symm
  subst hw1
  go_wp2_with fail
  refine HC2.out.mono ?_
  rintro e w2 ⟨rfl, hw2⟩
  replace hw2 := hw2.symm
  subst hw2
  go_wp2_with fail
  refine (of_mk2 _ c).mono ?_
  rintro e w3 ⟨q, rfl, hcq, hbw3⟩
  have HBw3 : Hid (Below w.heap.size w w3) := HB0.out.trans (hbw3.mono HB0.out.size)
  have HCw3 := hid (those42 w3 base (pq P) L (HLv.out.below HBw3.out) hl q (ofF c) (fun W z ha hW => of_cl W z q c ((hW.cell (World.block_lt_of_cell? _ _ hcq)).trans hcq)))
  clear hbw3 hcq
  go_wp2_with fail
  refine HCw3.out.mono ?_
  rintro e w4 ⟨⟨aow4, capw4, rfl, hownw4⟩, hbw4⟩
  have HBw4 : Hid (Below w.heap.size w w4) := HBw3.out.trans (hbw4.mono HBw3.out.size)
  have HOw4 := hid hownw4
  obtain ⟨n, hnn⟩ : ∃ n, n = (L.filter (ofF c)).length := ⟨_, rfl⟩
  have HNn := hid hnn
  rw [← hnn] at HOw4 ⊢
  clear hbw4 hownw4 HCw3 hnn
  have hn0 : n = 0 := HNn.out.trans HCn.out
  subst hn0
  go_wp2_with fail
  refine (of_mk2 _ p).mono ?_
  rintro e w5 ⟨q2, rfl, hcq2, hbw5⟩
  have HBw5 : Hid (Below w.heap.size w w5) := HBw4.out.trans (hbw5.mono HBw4.out.size)
  have HCw5 := hid (those42 w5 base (pq P) L (HLv.out.below HBw5.out) hl q2 (ofF p) (fun W z ha hW => of_cl W z q2 p ((hW.cell (World.block_lt_of_cell? _ _ hcq2)).trans hcq2)))
  clear hbw5 hcq2
  go_wp2_with fail
  refine HCw5.out.mono ?_
  rintro e w6 ⟨⟨aow6, capw6, rfl, hownw6⟩, hbw6⟩
  have HBw6 : Hid (Below w.heap.size w w6) := HBw5.out.trans (hbw6.mono HBw5.out.size)
  have HOw6 := hid hownw6
  obtain ⟨N, hnN⟩ : ∃ N, N = (L.filter (ofF p)).length := ⟨_, rfl⟩
  have HNN := hid hnN
  rw [← hnN] at HOw6 ⊢
  clear hbw6 hownw6 HCw5 hnN
  obtain ⟨X, hX⟩ : ∃ X, X = L.filter (ofF p) := ⟨_, rfl⟩
  have HXe := hid hX
  have HRx : Hid (Rd3 w6 aow6 X) := by
    have h1 := HOw6.out
    rw [HNN.out] at h1
    rw [hX]
    exact Rd3.own h1
  have HNX : Hid (N = X.length) := by rw [hX]; exact HNN.out
  have hN4 : N ≤ 1000 := by rw [HNN.out]; exact Nat.le_trans (filter_len L _) hl
  have hcN := own_cap HOw6.out
  have HAp : Hid (∀ v, Lw w6 base P v L → Apt w6 aow6 P v) := fun v hv g o hgo => by
    have h1 := HOw6.out
    obtain ⟨v0, hv0⟩ := HL.out
    have e0 : v = v0 := by
      have h2 := hv.2.1
      rw [(hv0.below HBw6.out).2.1] at h2
      simp only [Option.some.injEq, Obj.cells.injEq, Array.mk.injEq, List.cons.injEq, and_true] at h2
      exact h2.symm
    have hgk : (Value.slice aow6 N capw6).ownBlock = some g := by rw [hgo]; rfl
    have hgl := h1.lt g hgk
    have h5 := HBw5.out.size
    refine ⟨fun e => ?_, fun e => ?_, hgl.2⟩
    · rw [e0] at e
      have := (hv0.2.2.lt g e).2
      omega
    · have := hv0.lt
      omega
  have HL6 := hid (HL.out.below HBw6.out)
  clear hX
  go_wp2_with fail
  go_loopw [37] (fun u wr => ∃ (k : Nat) (v : Value), k ≤ N ∧ u = i64 k ∧ Hid (Lw wr base P v (L ++ (X.take k).map (mv c))) ∧ Hid (Apt wr aow6 P v) ∧ Hid (Rd3 wr aow6 X) ∧ Hid (Fr base [75, 79] w wr)) (fun u _ => N - (intOf u).toNat)
  case atStart =>
    obtain ⟨v, hv⟩ := HL6.out
    exact ⟨0, v, by omega, rfl, by simpa [Hid] using hv, HAp.out v hv, HRx, Fr.of_below _ HBw6.out hbw⟩
  case round =>
    obtain ⟨k, v, hk, rfl, HLr, HAr, HRr, HFr⟩ := hrel
    by_cases hlt : k < N
    · have hkI : (k : Int) < N := by omega
      obtain ⟨x, hx⟩ : ∃ x, X[k]? = some x := ⟨_, List.getElem?_eq_getElem (by rw [← HNX.out]; exact hlt)⟩
      obtain ⟨g, o, hao, hgl, c0, c1, c2⟩ := HRr.out k x hx
      have hx' : (L.filter (ofF p))[k]? = some x := by rw [← HXe.out]; exact hx
      have hgk : Good (L ++ (X.take k).map (mv c)) := by rw [HXe.out]; exact fork_good HG.out HFk.out.2.1.1 HFk.out.2.1.2 HCn.out k
      have hyk : layB (L ++ (X.take k).map (mv c)) (mv c x) = true := by rw [HXe.out]; exact fork_lay HG.out HCn.out hx'
      have hi := isA_of ((HG.out.filter (ofF p)).at hx').1
      have hst : L ++ (X.take (k + 1)).map (mv c) = (L ++ (X.take k).map (mv c)) ++ [mv c x] := by rw [HXe.out]; exact fork_step L p c hx'
      have HST := hid hst
      have HLV : Hid (Lw (wr.alloc (arO (mv c x) 79)) base P v (L ++ (X.take k).map (mv c))) := HLr.out.below (below_one wr _)
      have HY := hid (lay_yes (wr.alloc (arO (mv c x) 79)) base P v (L ++ (X.take k).map (mv c)) (mv c x) HLV.out hgk (isA_mk ⟨HFk.out.2.1.1, HFk.out.2.1.2, hi.2.2.1, hi.2.2.2.1, hi.2.2.2.2⟩) hyk)
      have hlo : base ≤ wr.heap.size := Nat.le_of_lt (Nat.lt_of_le_of_lt HLr.out.1 HLr.out.lt)
      have HFV : Hid (Fr base [75, 79] w (wr.alloc (arO (mv c x) 79))) := HFr.out.alloc hlo _
      subst hao
      clear hx hx' hgk hyk hi hst
      go_wp2_with fail
      refine HY.out.mono ?_
      rintro e w8 ⟨rfl, v8, hl8, hob8, hf8, hk8⟩
      have HL8 : Hid (Lw w8 base P v8 (L ++ (X.take (k + 1)).map (mv c))) := by rw [Hid, HST.out]; exact hl8
      have HF8 : Hid (Fr base [75, 79] w w8) := HFV.out.trans hf8
      have hsz : (wr.alloc (arO (mv c x) 79)).heap.size = wr.heap.size + 1 := by simp
      rw [hsz] at hob8 hk8
      have HA8 : Hid (Apt w8 (some ⟨g, o, none⟩) P v8) := fun g' o' hgo => by
        obtain ⟨a1, a2, a3⟩ := HAr.out g' o' hgo
        refine ⟨?_, a2, Nat.lt_of_lt_of_le a3 (Nat.le_trans (by rw [hsz]; omega) hf8.size)⟩
        rcases hob8 with h | ⟨g2, h, h2⟩
        · rw [h]; exact a1
        · rw [h]
          intro e
          simp only [Option.some.injEq] at e
          omega
      have HR8 : Hid (Rd3 w8 (some ⟨g, o, none⟩) X) := (HRr.out.below (below_one wr _)).keep (fun g' o' hgo hgl' => by
        obtain ⟨a1, a2, a3⟩ := HAr.out g' o' hgo
        exact hk8 g' (by omega) a2 (fun e => a1 e.symm)) hf8.size
      clear hl8 hob8 hf8 hk8 HY hsz
      go_wp2_with fail
      exact ⟨⟨k + 1, v8, by omega, by go_num, HL8, HA8, HR8, HF8⟩, by simp [intOf]; omega⟩
    · have HE : Hid (Lb wr base P (forkL L p c)) := by
        refine ⟨v, ?_⟩
        have h1 := HLr.out
        rw [List.take_of_length_le (by rw [← HNX.out]; omega), HXe.out] at h1
        exact h1
      go_wp2_with fail
      go_ret
      exact ⟨rfl, HE.out, HFr.out⟩
end Go.Proofs.Ytlkcpjefgelcoaa
