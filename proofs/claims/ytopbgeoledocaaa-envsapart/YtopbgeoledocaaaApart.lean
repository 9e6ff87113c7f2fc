/- EnvsApart's walk; no statement is proved in this text. -/
import Derived.Test.YtopbgeoledocaaaDoes
namespace Go.Proofs.Ytopbgeoledocaaa
open Go.ChangeShapes Go.WideShapes Go.ChangeAt Go.RowKit Go.Deep
attribute [local go_sem ↓] Go.wp_at_zero Go.wp_at_succ

set_option maxRecDepth 100000 in
set_option maxHeartbeats 3200000 in
theorem apart_long (w : World) (ao : Option Addr) (len cap : Nat) (n : Int) (hlen : len ≤ maxLen) (h : 100 < len) : Calls Try.prog 6 #[.slice ao len cap, i64 n] w fun e w' => e = .returned (.bool true) ∧ Below w.heap.size w w' := by
  have hI : (100 : Int) < len := by omega
  have hm : (len : Int) ≤ 9223372036854775807 := by unfold maxLen at hlen; omega
  clear h hlen
  go_enter Try.func6, Try.ntmps6
  go_wp2_with fail
  refine (new_ok w).mono ?_
  rintro e w1 ⟨rfl, ht1, hb1⟩
  have HB1 := hid hb1
  clear ht1 hb1
  go_wp2_with fail
  refine (five_ok _).mono ?_
  rintro e w2 ⟨rfl, hb2⟩
  have HB2 : Hid (Below w.heap.size w w2) := HB1.out.trans (hb2.mono HB1.out.size)
  clear hb2
  go_wp2_with fail
  go_ret
  exact ⟨rfl, HB2.out⟩
set_option maxRecDepth 100000 in
set_option maxHeartbeats 6400000 in
theorem apart_in (w : World) (ao : Option Addr) (len cap : Nat) (n : Int) (f : Nat → Sp) (hl : len ≤ 100) (hS : SSl w ao len f) : Calls Try.prog 6 #[.slice ao len cap, i64 n] w fun e w' => e = .returned (.bool true) ∧ Below w.heap.size w w' := by
  obtain ⟨b, hb⟩ : ∃ b, b = w.heap.size := ⟨_, rfl⟩
  have hI : (len : Int) ≤ 100 := by omega
  have HN : Hid (Calls Try.prog 8 #[] w fun e w' => e = .returned (pq b) ∧ Tb w' b b zE ∧ Below b w w') := by rw [hb]; exact new_ok w
  have HSb : Hid (∀ W, Below b w W → ∀ k, k < len → ∃ B off, ao = some ⟨B, off, none⟩ ∧ W.rangeAt B (off + k * 5) (f k).c') := fun W hW k hk => by
    rw [hb] at hW
    obtain ⟨B, off, h1, _, h2⟩ := (hS.below hW).at hk
    exact ⟨B, off, h1, h2⟩
  rw [← hb]
  clear hS hb
  go_enter Try.func6, Try.ntmps6
  go_wp2_with fail
  refine HN.out.mono ?_
  rintro e w1 ⟨rfl, ht1, hb1⟩
  have hl1 := ht1.lt
  have HT1 : Hid (Tw (w1.alloc (.cells #[.slice none 0 0] 29)) b b w1.heap.size 0 zE []) := ⟨ht1.below (below_one w1 _), ⟨by omega, ⟨_, heap_last w1 _, World.ownsRow_nil _ _ 41 5⟩, fun i p hp => by simp at hp, fun i j p q hp => by simp at hp⟩, rl_zero⟩
  have HB1 : Hid (Below b w (w1.alloc (.cells #[.slice none 0 0] 29))) := hb1.trans ((below_one w1 _).mono (by omega))
  obtain ⟨R, hR⟩ : ∃ R, R = w1.heap.size := ⟨_, rfl⟩
  clear ht1 hb1 hl1
  go_wp2_with fail
  rw [← hR] at HT1 ⊢
  generalize w1.alloc (.cells #[.slice none 0 0] 29) = w2 at *
  clear hR
  go_loopw [31] (fun u wr => ∃ (k : Nat) (E : Nat → Option En) (L : List Rn), k ≤ len ∧ u = i64 k ∧ Hid (Tw wr b b R k E L) ∧ Hid (Below b w wr)) (fun u _ => len - (intOf u).toNat)
  case atStart => exact ⟨0, _, _, by omega, rfl, HT1, HB1⟩
  case round =>
    obtain ⟨k, E, L, hk, rfl, HT, HB⟩ := hrel
    by_cases hlt : k < len
    · have hkI : (k : Int) < len := by omega
      obtain ⟨B, off, hao, hr⟩ := HSb.out wr HB.out k hlt
      subst hao
      obtain ⟨x, hx⟩ : ∃ x, x = f k := ⟨_, rfl⟩
      rw [← hx] at hr
      have c0 : wr.cell? ⟨B, off + k * 5, none⟩ = some (i64 x.what) := hr 0 _ rfl
      have c1 : wr.cell? ⟨B, off + k * 5 + 1, none⟩ = some (i64 x.env) := hr 1 _ rfl
      have c2 : wr.cell? ⟨B, off + k * 5 + 2, none⟩ = some (i64 x.ver) := hr 2 _ rfl
      have c3 : wr.cell? ⟨B, off + k * 5 + 3, none⟩ = some (i64 x.k) := hr 3 _ rfl
      have c4 : wr.cell? ⟨B, off + k * 5 + 4, none⟩ = some (i64 x.x) := hr 4 _ rfl
      have HX : Hid ((wr.alloc (spO x)).heap[wr.heap.size]? = some (spO x)) := heap_last wr _
      have HTV : Hid (Tw (wr.alloc (spO x)) b b R k E L) := HT.out.below (below_one wr _)
      have hbl := HT.out.r.los
      have HBV : Hid (Below b w (wr.alloc (spO x))) := HB.out.trans ((below_one wr _).mono hbl)
      clear hx hr
      go_upto_region 8 with fail
      obtain ⟨Z, hZ⟩ : ∃ Z, Z = wr.heap.size := ⟨_, rfl⟩
      rw [← hZ] at HX ⊢
      generalize wr.alloc (spO x) = V at *
      clear c0 c1 c2 c3 c4 hZ hbl
      have HV1 := hid (ver_ok HTV.out.t n)
      have HL1 := hid (lost_ok HTV.out.t n)
      obtain ⟨A, Bb, hAB⟩ : ∃ A Bb : Int, vrV (stE E n) = .tuple #[i64 A, i64 Bb] := by
        unfold vrV
        split <;> exact ⟨_, _, rfl⟩
      obtain ⟨lo, hlo⟩ : ∃ lo, lo = ((stE E n).map En.lost).getD 0 := ⟨_, rfl⟩
      rw [hAB] at HV1
      rw [← hlo] at HL1
      have HAB := hid hAB
      have HLO := hid hlo
      have HD := hid (show Calls Try.prog 10 #[pq b, pq R, .agg #[i64 x.what, i64 x.env, i64 x.ver, i64 x.k, i64 x.x]] V _ from does_ok HTV.out (by omega) x)
      have y0 : V.cell? ⟨Z, 0, none⟩ = some (i64 x.what) := blk_cell HX.out 0
      have y1 : V.cell? ⟨Z, 1, none⟩ = some (i64 x.env) := blk_cell HX.out 1
      have y2 : V.cell? ⟨Z, 2, none⟩ = some (i64 x.ver) := blk_cell HX.out 2
      have y3 : V.cell? ⟨Z, 3, none⟩ = some (i64 x.k) := blk_cell HX.out 3
      have y4 : V.cell? ⟨Z, 4, none⟩ = some (i64 x.x) := blk_cell HX.out 4
      clear hAB hlo
      go_wp2_with fail
      refine HV1.out.mono ?_
      rintro e v8 ⟨rfl, hv⟩
      replace hv := hv.symm
      subst hv
      go_wp2_with fail
      refine HL1.out.mono ?_
      rintro e v8 ⟨rfl, hv⟩
      replace hv := hv.symm
      subst hv
      go_wp2_with fail
      refine HD.out.mono ?_
      rintro e w5 ⟨rfl, E5, L5, ht5, hne5, hf5⟩
      have HB5 : Hid (Below b w w5) := HBV.out.trans hf5.below
      have HX5 : Hid (w5.heap[Z]? = some (spO x)) := hf5.kept _ _ HX.out (by rfl)
      have HT5 := hid ht5
      have z1 : w5.cell? ⟨Z, 1, none⟩ = some (i64 x.env) := blk_cell HX5.out 1
      obtain ⟨A5, B5, hAB5⟩ : ∃ A Bb : Int, vrV (stE E5 n) = .tuple #[i64 A, i64 Bb] := by
        unfold vrV
        split <;> exact ⟨_, _, rfl⟩
      have HV5 := ver_ok ht5.t n
      rw [hAB5] at HV5
      have HV5 := hid HV5
      by_cases he : x.env = n
      · have hq : (x.env != n) = false := by simp [he]
        clear he ht5 hf5 hne5 hAB5 y0 y1 y2 y3 y4
        go_wp2_with fail
        refine HV5.out.mono ?_
        rintro e v8 ⟨rfl, hv⟩
        replace hv := hv.symm
        subst hv
        go_wp2_with fail
        exact ⟨⟨k + 1, _, _, by omega, by go_num, HT5, HB5⟩, by simp [intOf]; omega⟩
      · have hq : (x.env != n) = true := by simp [he]
        have hs5 : stE E5 n = stE E n := hne5 n (fun e => he e.symm)
        rw [hs5, HAB.out] at hAB5
        simp at hAB5
        obtain ⟨rfl, rfl⟩ := hAB5
        have HL5 := lost_ok ht5.t n
        rw [hs5, ← HLO.out] at HL5
        have HL5 := hid HL5
        clear he ht5 hf5 hne5 hs5 y0 y1 y2 y3 y4
        go_wp2_with fail
        refine HV5.out.mono ?_
        rintro e v8 ⟨rfl, hv⟩
        replace hv := hv.symm
        subst hv
        go_wp2_with fail
        refine HL5.out.mono ?_
        rintro e v8 ⟨rfl, hv⟩
        replace hv := hv.symm
        subst hv
        go_wp2_with fail
        exact ⟨⟨k + 1, _, _, by omega, by go_num, HT5, HB5⟩, by simp [intOf]; omega⟩
    · obtain rfl : k = len := by omega
      go_wp2_with fail
      refine (five_ok _).mono ?_
      rintro e w2 ⟨rfl, hb2⟩
      have hbl := HT.out.r.los
      have HB2 : Hid (Below b w w2) := HB.out.trans (hb2.mono hbl)
      clear hb2 hbl
      go_wp2_with fail
      go_ret
      exact ⟨rfl, HB2.out⟩
theorem apart_any (w : World) (ao : Option Addr) (len cap : Nat) (n : Int) (f : Nat → Sp) (hlen : len ≤ maxLen) (hS : SSl w ao len f) : Calls Try.prog 6 #[.slice ao len cap, i64 n] w fun e w' => e = .returned (.bool true) ∧ Below w.heap.size w w' := by
  by_cases h : 100 < len
  · exact apart_long w ao len cap n hlen h
  · exact apart_in w ao len cap n f (by omega) hS
end Go.Proofs.Ytopbgeoledocaaa
