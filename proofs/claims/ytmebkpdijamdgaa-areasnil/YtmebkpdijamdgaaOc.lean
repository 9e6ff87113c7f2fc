/- Map, Load, Fork; no statement is proved in this text. -/
import Derived.Test.YtmebkpdijamdgaaOb
namespace Go.Proofs.Ytmebkpdijamdgaa
open Go.ChangeShapes Go.WideShapes Go.ChangeAt Go.RowKit Go.Deep
attribute [local go_sem ↓] Go.wp_at_zero Go.wp_at_succ

theorem cond4 (p n : Int) : (1 ≤ p ∧ p ≤ 6) ∧ 1 ≤ n ∧ n ≤ 16 ∨ ¬((1 ≤ p ∧ p ≤ 6) ∧ 1 ≤ n ∧ n ≤ 16) := Classical.em _
set_option maxRecDepth 100000 in
set_option maxHeartbeats 3200000 in
theorem map_arg (w : World) (pv : Value) (p n : Int) (h : ¬((1 ≤ p ∧ p ≤ 6) ∧ 1 ≤ n ∧ n ≤ 16)) : Calls Try.prog 17 #[pv, i64 p, i64 n] w fun e w' => e = .returned (.tuple #[i64 0, i64 1]) ∧ Below w.heap.size w w' := by
  have HB := hid (Below.refl w.heap.size w)
  have HC := hid (isProc_ok w p)
  by_cases h1 : 1 ≤ p ∧ p ≤ 6
  · rw [decide_eq_true h1] at HC
    by_cases h2 : 1 ≤ n
    · have h3 : 16 < n := by omega
      clear h h1
      go_enter Try.func17, Try.ntmps17
      go_wp2_with fail
      refine HC.out.mono ?_
      rintro e w1 ⟨rfl, hw1⟩
      replace hw1 := hw1.symm
      subst hw1
      go_wp2_with fail
      go_ret2
      exact ⟨rfl, HB.out⟩
    · have h3 : n < 1 := by omega
      clear h h1 h2
      go_enter Try.func17, Try.ntmps17
      go_wp2_with fail
      refine HC.out.mono ?_
      rintro e w1 ⟨rfl, hw1⟩
      replace hw1 := hw1.symm
      subst hw1
      go_wp2_with fail
      go_ret2
      exact ⟨rfl, HB.out⟩
  · rw [decide_eq_false h1] at HC
    clear h h1
    go_enter Try.func17, Try.ntmps17
    go_wp2_with fail
    refine HC.out.mono ?_
    rintro e w1 ⟨rfl, hw1⟩
    replace hw1 := hw1.symm
    subst hw1
    go_wp2_with fail
    go_ret2
    exact ⟨rfl, HB.out⟩
set_option maxRecDepth 100000 in
set_option maxHeartbeats 3200000 in
theorem map_nil (w : World) (p n : Int) (h : (1 ≤ p ∧ p ≤ 6) ∧ 1 ≤ n ∧ n ≤ 16) : Calls Try.prog 17 #[.pointer none, i64 p, i64 n] w fun e w' => e = .returned (.tuple #[i64 0, i64 7]) ∧ Below w.heap.size w w' := by
  have HB := hid (Below.refl w.heap.size w)
  have HC := hid (isProc_ok w p)
  rw [decide_eq_true h.1] at HC
  obtain ⟨_, h2, h3⟩ := h
  go_enter Try.func17, Try.ntmps17
  go_wp2_with fail
  refine HC.out.mono ?_
  rintro e w1 ⟨rfl, hw1⟩
  replace hw1 := hw1.symm
  subst hw1
  go_wp2_with fail
  go_ret2
  exact ⟨rfl, HB.out⟩
set_option maxRecDepth 100000 in
set_option maxHeartbeats 3200000 in
theorem map_no (w : World) (base P : Nat) (L : List Ar) (p n : Int) (h : (1 ≤ p ∧ p ≤ 6) ∧ 1 ≤ n ∧ n ≤ 16) (hL : Lb w base P L) (hg : Good L) (hm : MapNo L p n) : Calls Try.prog 17 #[pq P, i64 p, i64 n] w fun e w' => e = .returned (.tuple #[i64 0, i64 5]) ∧ Below w.heap.size w w' := by
  have HC := hid (isProc_ok w p)
  rw [decide_eq_true h.1] at HC
  obtain ⟨hp, h2, h3⟩ := h
  have HM := hid hm
  have HG := hid hg
  have HL := hid hL
  have HP := hid hp
  clear hm hg hL hp
  go_enter Try.func17, Try.ntmps17
  go_wp2_with fail
  refine HC.out.mono ?_
  rintro e w1 ⟨rfl, hw1⟩
  replace hw1 := hw1.symm
  subst hw1
  go_wp2_with fail
  go_loopw [25] (fun u wr => ∃ (k : Nat), (k : Int) ≤ 17 - n ∧ u = i64 k ∧ Hid (Lb wr base P L) ∧ Hid (Below w.heap.size w wr)) (fun u _ => 17 - (intOf u).toNat)
  case atStart => exact ⟨0, by omega, rfl, HL, Below.refl _ _⟩
  case round =>
    obtain ⟨k, hk, rfl, HLr, HBr⟩ := hrel
    by_cases hlt : (k : Int) < 17 - n
    · have hb := HM.out k (by omega)
      obtain ⟨v, hv⟩ := HLr.out
      have HY := hid (lay_no wr base P v L (p, (k : Int), n) hv HG.out (isA_mk ⟨HP.out.1, HP.out.2, by simp, h2, by show (k : Int) + n ≤ 16; omega⟩) hb)
      clear hb hv
      go_wp2_with fail
      refine HY.out.mono ?_
      rintro e w2 ⟨rfl, hb2⟩
      have HB2 : Hid (Below w.heap.size w w2) := HBr.out.trans (hb2.mono HBr.out.size)
      have HL2 := hid (HLr.out.below hb2)
      clear hb2 HY
      go_wp2_with fail
      exact ⟨⟨k + 1, by push_cast; omega, by go_num, HL2, HB2⟩, by simp [intOf]; omega⟩
    · go_wp2_with fail
      go_ret2
      exact ⟨rfl, HBr.out⟩
set_option maxRecDepth 100000 in
set_option maxHeartbeats 3200000 in
theorem map_at (w : World) (base P : Nat) (L : List Ar) (p n : Int) (K : Nat) (h : (1 ≤ p ∧ p ≤ 6) ∧ 1 ≤ n ∧ n ≤ 16) (hL : Lb w base P L) (hg : Good L) (hm : MapAt L p n K) : Calls Try.prog 17 #[pq P, i64 p, i64 n] w fun e w' => e = .returned (.tuple #[i64 K, i64 0]) ∧ Lb w' base P (L ++ [(p, (K : Int), n)]) ∧ Fr base [54, 42] w w' := by
  have HC := hid (isProc_ok w p)
  rw [decide_eq_true h.1] at HC
  obtain ⟨hp, h2, h3⟩ := h
  have HM := hid hm
  have hK : (K : Int) + n ≤ 16 := hm.1
  have HG := hid hg
  have HL := hid hL
  have HP := hid hp
  have hbw := hL.lob
  clear hm hg hL hp
  go_enter Try.func17, Try.ntmps17
  go_wp2_with fail
  refine HC.out.mono ?_
  rintro e w1 ⟨rfl, hw1⟩
  replace hw1 := hw1.symm
  subst hw1
  go_wp2_with fail
  go_loopw [25] (fun u wr => ∃ (k : Nat), (k : Int) ≤ 17 - n ∧ k ≤ K ∧ u = i64 k ∧ Hid (Lb wr base P L) ∧ Hid (Below w.heap.size w wr)) (fun u _ => 17 - (intOf u).toNat)
  case atStart => exact ⟨0, by omega, Nat.zero_le _, rfl, HL, Below.refl _ _⟩
  case round =>
    obtain ⟨k, hk, hkK, rfl, HLr, HBr⟩ := hrel
    have hlt : (k : Int) < 17 - n := by omega
    have HI : Hid (isA (p, (k : Int), n) = true) := isA_mk ⟨HP.out.1, HP.out.2, by simp, h2, by show (k : Int) + n ≤ 16; omega⟩
    by_cases hkk : k < K
    · obtain ⟨v, hv⟩ := HLr.out
      have HY := hid (lay_no wr base P v L (p, (k : Int), n) hv HG.out HI.out (HM.out.2.2 k hkk))
      clear hv
      go_wp2_with fail
      refine HY.out.mono ?_
      rintro e w2 ⟨rfl, hb2⟩
      have HB2 : Hid (Below w.heap.size w w2) := HBr.out.trans (hb2.mono HBr.out.size)
      have HL2 := hid (HLr.out.below hb2)
      clear hb2 HY
      go_wp2_with fail
      exact ⟨⟨k + 1, by push_cast; omega, by omega, by go_num, HL2, HB2⟩, by simp [intOf]; omega⟩
    · obtain rfl : k = K := by omega
      obtain ⟨v, hv⟩ := HLr.out
      have HY := hid (lay_yes wr base P v L (p, (k : Int), n) hv HG.out HI.out HM.out.2.1)
      clear hv hkk
      go_wp2_with fail
      refine HY.out.mono ?_
      rintro e w2 ⟨rfl, v2, hl2, _, hf2, _⟩
      have HL2 : Hid (Lb w2 base P (L ++ [(p, (k : Int), n)])) := ⟨v2, hl2⟩
      have HF2 : Hid (Fr base [54, 42] w w2) := (Fr.of_below _ HBr.out hbw).trans hf2
      clear hl2 hf2 HY
      go_wp2_with fail
      go_ret2
      exact ⟨rfl, HL2.out, HF2.out⟩
def LoadA (w' : World) (b : Nat) (X : List Ar) (e : Ending) : Prop := (Good X ∧ e = .returned (.tuple #[pq b, i64 0]) ∧ Lb w' b b X) ∨ (¬ Good X ∧ e = .returned (.tuple #[.pointer none, i64 4]))
set_option maxRecDepth 100000 in
set_option maxHeartbeats 3200000 in
theorem load_ok (w : World) (ao : Option Addr) (cap : Nat) (X : List Ar) (hX : X.length ≤ 1000) (hR : Rd3 w ao X) (hm : ∀ a ∈ X, a.2.1 ≤ 9223372036854775807) : Calls Try.prog 18 #[.slice ao X.length cap] w fun e w' => LoadA w' w.heap.size X e ∧ Below w.heap.size w w' := by
  have HR := hid hR
  have HM := hid hm
  have HNw := hid (new_ok w)
  obtain ⟨b, hb⟩ : ∃ b, b = w.heap.size := ⟨_, rfl⟩
  have HBB := hid hb
  rw [← hb] at HNw ⊢
  obtain ⟨N, hN⟩ : ∃ N, N = X.length := ⟨_, rfl⟩
  have HN := hid hN
  rw [← hN] at hX ⊢
  clear hR hm hN hb
  go_enter Try.func18, Try.ntmps18
  go_wp2_with fail
  refine HNw.out.mono ?_
  rintro e w1 ⟨rfl, hl1, hb1⟩
  have HL1 := hid hl1
  have HB1 := hid hb1
  clear hl1 hb1
  go_wp2_with fail
  go_loopw [10] (fun u wr => ∃ (k : Nat), k ≤ N ∧ u = i64 k ∧ Hid (Lb wr b b (X.take k)) ∧ Hid (Good (X.take k)) ∧ Hid (Below b w wr)) (fun u _ => N - (intOf u).toNat)
  case atStart => exact ⟨0, by omega, rfl, HL1, .nil, HB1⟩
  case round =>
    obtain ⟨k, hk, rfl, HLr, HGr, HBr⟩ := hrel
    by_cases hlt : k < N
    · have hkI : (k : Int) < N := by omega
      obtain ⟨x, hx⟩ : ∃ x, X[k]? = some x := ⟨_, List.getElem?_eq_getElem (by rw [← HN.out]; exact hlt)⟩
      obtain ⟨g, o, hao, hgl, c0, c1, c2⟩ := (HR.out.below (by rw [← HBB.out]; exact HBr.out)) k x hx
      subst hao
      have HXX := hid hx
      have HIA := hid (isArea_ok (wr.alloc (arO x 42)) x (HM.out x (List.mem_of_getElem? hx)))
      have HXb := hid (heap_last wr (arO x 42))
      have HBV : Hid (Below b w (wr.alloc (arO x 42))) := HBr.out.trans ((below_one wr _).mono HLr.out.lob)
      have HLV : Hid (Lb (wr.alloc (arO x 42)) b b (X.take k)) := HLr.out.below (below_one wr _)
      clear hx
      cases hi : isA x
      · rw [hi] at HIA
        have HNG : Hid (¬ Good X) := not_good HXX.out (fun h => by rw [hi] at h; cases h.1)
        clear hi
        go_wp2_with fail
        refine HIA.out.mono ?_
        rintro e w2 ⟨rfl, hb2⟩
        have HB2 : Hid (Below b w w2) := HBV.out.trans (hb2.mono HLV.out.lob)
        clear hb2 HIA
        go_wp2_with fail
        go_ret2
        exact ⟨.inr ⟨HNG.out, rfl⟩, HB2.out⟩
      · rw [hi] at HIA
        cases hy : layB (X.take k) x
        · have HNG : Hid (¬ Good X) := not_good HXX.out (fun h => by rw [hy] at h; cases h.2)
          have HYY := hid fun W (hW : Lb W b b (X.take k)) => lay_no W b b _ (X.take k) x hW.choose_spec HGr.out hi hy
          clear hi hy
          go_wp2_with fail
          refine HIA.out.mono ?_
          rintro e w2 ⟨rfl, hb2⟩
          have HB2 : Hid (Below b w w2) := HBV.out.trans (hb2.mono HLV.out.lob)
          have HL2 := hid (HLV.out.below hb2)
          obtain ⟨y0, y1, y2⟩ := three_cells (blk_below HXb.out hb2)
          have hx2 : wr.heap.size < w2.heap.size := blk_lt (blk_below HXb.out hb2)
          have HY := hid (HYY.out w2 HL2.out)
          clear hb2 HIA HYY
          go_wp2_with fail
          refine HY.out.mono ?_
          rintro e w3 ⟨rfl, hb3⟩
          have HB3 : Hid (Below b w w3) := HB2.out.trans (hb3.mono HL2.out.lob)
          clear hb3 HY
          go_wp2_with fail
          go_ret2
          exact ⟨.inr ⟨HNG.out, rfl⟩, HB3.out⟩
        · have HG2 : Hid (Good (X.take (k + 1))) := by rw [Hid, take_last HXX.out]; exact .snoc HGr.out hi hy
          have HTL : Hid (X.take (k + 1) = X.take k ++ [x]) := take_last HXX.out
          have HYY := hid fun W (hW : Lb W b b (X.take k)) => lay_yes W b b _ (X.take k) x hW.choose_spec HGr.out hi hy
          clear hi hy
          go_wp2_with fail
          refine HIA.out.mono ?_
          rintro e w2 ⟨rfl, hb2⟩
          have HB2 : Hid (Below b w w2) := HBV.out.trans (hb2.mono HLV.out.lob)
          have HL2 := hid (HLV.out.below hb2)
          obtain ⟨y0, y1, y2⟩ := three_cells (blk_below HXb.out hb2)
          have hx2 : wr.heap.size < w2.heap.size := blk_lt (blk_below HXb.out hb2)
          have HY := hid (HYY.out w2 HL2.out)
          clear hb2 HIA HYY
          go_wp2_with fail
          refine HY.out.mono ?_
          rintro e w3 ⟨rfl, v3, hl3, _, hf3, _⟩
          have HB3 : Hid (Below b w w3) := HB2.out.trans hf3.below
          have HL3 : Hid (Lb w3 b b (X.take (k + 1))) := ⟨v3, by rw [HTL.out]; exact hl3⟩
          clear hl3 hf3 HY
          go_wp2_with fail
          exact ⟨⟨k + 1, by omega, by go_num, HL3, HG2, HB3⟩, by simp [intOf]; omega⟩
    · have hE : X.take k = X := List.take_of_length_le (by rw [← HN.out]; omega)
      rw [hE] at HLr HGr
      clear hE
      go_wp2_with fail
      go_ret2
      exact ⟨.inl ⟨HGr.out, rfl, HLr.out⟩, HBr.out⟩
end Go.Proofs.Ytmebkpdijamdgaa
