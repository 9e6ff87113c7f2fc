/- isSpan, ahead, Load; no statement is proved in this text. -/
import Derived.Test.YtlkcpjefgelcoaaLp
namespace Go.Proofs.Ytlkcpjefgelcoaa
open Go.ChangeShapes Go.WideShapes Go.ChangeAt Go.RowKit Go.Deep
attribute [local go_sem ↓] Go.wp_at_zero Go.wp_at_succ

theorem wpL_skip {P : Program} {ops : Array Oper} {Q : Exit → Act → World → Prop} {md : Region.Mode} {S : World → Prop} {z : Nat} (i d : Nat) (p : List Nat) {oi : Oper} {fuel : Nat} {listed : Array Bool} {a : Act} {w : World} (hi : ops[i]? = some oi) (hd : oi.dst = some d) (hp : anc md ops (i :: (p ++ [z])) = true) (hiz : i ≠ z)
    (hs : Region.noSelect ops = true) (hf : Region.free md ops listed i = true) (hr : (Region.ready md ops listed).contains i = true)
    (hQ : ∀ c a w, Q (.panic c) (a.put (some d) undef) w → Q (.panic c) a w) (hS : S w) (hw : Region.wanted oi (yielded ops a.tmps) = false)
    (h : wpL P md ops Q S z fuel (listed.setIfInBounds i true) (a.put (some d) undef) w) : wpL P md ops Q S z (fuel + 1) listed a w := fun hc =>
  have hr' : i ∈ Region.ready md ops listed := by simpa using hr
  wpAnyL_first hp hiz hi (Region.noSelect_spec hs) (by rw [hd]; exact hQ) fuel listed a w hc (Region.free_spec hi hf) hr' (Or.inr ⟨hw, rfl⟩) hS (by rw [hd]; exact h (hc.step hr'))
set_option maxRecDepth 100000 in
set_option maxHeartbeats 12800000 in
theorem span_ok (w : World) (s : Sp) (hM : s.2.1 ≤ 9223372036854775807) : Calls Try.prog 50 #[sv s] w fun e w' => e = .returned (.bool (spB s)) ∧ Below w.heap.size w w' := by
  have HX := hid (heap_last w (sO s 71))
  have HB := hid (below_one w (sO s 71))
  obtain ⟨x0, x1, x2, x3⟩ := four_cells HX.out
  have hxl := blk_lt HX.out
  have HP := hid (sproc_ok (w.alloc (sO s 71)) s.1)
  have HQ := hid (prot_ok (w.alloc (sO s 71)) s.2.2.2)
  have HS : Hid (spB s = (decide (1 ≤ s.1 ∧ s.1 ≤ 6 ∧ 0 ≤ s.2.1 ∧ 1 ≤ s.2.2.1 ∧ s.2.1 + s.2.2.1 ≤ 16) && decide (s.2.2.2 = 1 ∨ s.2.2.2 = 3))) := rfl
  by_cases h1 : 1 ≤ s.1 ∧ s.1 ≤ 6
  · rw [decide_eq_true h1] at HP
    by_cases h2 : 0 ≤ s.2.1
    · by_cases h3 : 1 ≤ s.2.2.1
      · by_cases h4 : s.2.2.1 ≤ 16 - s.2.1
        · have hB : Hid (spB s = decide (s.2.2.2 = 1 ∨ s.2.2.2 = 3)) := by rw [HS.out, decide_eq_true ⟨h1.1, h1.2, h2, h3, by omega⟩]; rfl
          rw [hB.out]
          generalize decide (s.2.2.2 = 1 ∨ s.2.2.2 = 3) = B at HQ ⊢
          clear HS hB h1
          go_enter Try.func50, Try.ntmps50
          go_wp2_with fail
          refine HP.out.mono ?_
          rintro e w2 ⟨rfl, hv⟩
          replace hv := hv.symm
          subst hv
          go_wp2_with fail
          refine HQ.out.mono ?_
          rintro e w2 ⟨rfl, hv⟩
          replace hv := hv.symm
          subst hv
          go_wp2_with fail
          go_ret
          exact ⟨rfl, HB.out⟩
        · have hB : Hid (spB s = false) := by rw [HS.out, decide_eq_false (by omega)]; rfl
          rw [hB.out]
          clear HS hB h1 HQ
          go_enter Try.func50, Try.ntmps50
          go_wp2_with fail
          refine HP.out.mono ?_
          rintro e w2 ⟨rfl, hv⟩
          replace hv := hv.symm
          subst hv
          go_wp2_with fail
          go_ret
          exact ⟨rfl, HB.out⟩
      · have hB : Hid (spB s = false) := by rw [HS.out, decide_eq_false (by omega)]; rfl
        rw [hB.out]
        clear HS hB h1 HQ
        go_enter Try.func50, Try.ntmps50
        go_wp2_with fail
        refine HP.out.mono ?_
        rintro e w2 ⟨rfl, hv⟩
        replace hv := hv.symm
        subst hv
        go_wp2_with fail
        go_ret
        exact ⟨rfl, HB.out⟩
    · have hB : Hid (spB s = false) := by rw [HS.out, decide_eq_false (by omega)]; rfl
      rw [hB.out]
      clear HS hB h1 HQ
      go_enter Try.func50, Try.ntmps50
      go_wp2_with fail
      refine HP.out.mono ?_
      rintro e w2 ⟨rfl, hv⟩
      replace hv := hv.symm
      subst hv
      go_wp2_with fail
      go_ret
      exact ⟨rfl, HB.out⟩
  · rw [decide_eq_false h1] at HP
    have hB : Hid (spB s = false) := by rw [HS.out, decide_eq_false (by omega)]; rfl
    rw [hB.out]
    clear HS hB h1 HQ
    go_enter Try.func50, Try.ntmps50
    go_wp2_with fail
    refine HP.out.mono ?_
    rintro e w2 ⟨rfl, hv⟩
    replace hv := hv.symm
    subst hv
    go_wp2_with fail
    go_ret
    exact ⟨rfl, HB.out⟩
set_option maxRecDepth 100000 in
set_option maxHeartbeats 12800000 in
theorem ahead_ok (w : World) (a b : Sp) : Calls Try.prog 51 #[sv a, sv b] w fun e w' => e = .returned (.bool (ahB a b)) ∧ Below w.heap.size w w' := by
  have HX := hid (heap_last w (sO a 71))
  have HX2 := hid (blk_alloc HX.out (sO b 71))
  have HY := hid (heap_last (w.alloc (sO a 71)) (sO b 71))
  have hsz : (w.alloc (sO a 71)).heap.size = w.heap.size + 1 := by simp
  rw [hsz] at HY
  have HB : Hid (Below w.heap.size w ((w.alloc (sO a 71)).alloc (sO b 71))) := (below_one w _).alloc (by simp) _
  obtain ⟨x0, x1, x2, x3⟩ := four_cells HX2.out
  obtain ⟨y0, y1, y2, y3⟩ := four_cells HY.out
  have HS : Hid (ahB a b = (decide (a.1 < b.1) || (a.1 == b.1 && decide (a.2.1 < b.2.1)))) := rfl
  clear hsz
  rw [HS.out]
  by_cases h1 : a.1 < b.1
  · have hd : decide (a.1 < b.1) = true := decide_eq_true h1
    rw [hd, Bool.true_or]
    clear HS
    go_enter Try.func51, Try.ntmps51
    go_wp2_with fail
    go_ret
    exact ⟨rfl, HB.out⟩
  · have hd : decide (a.1 < b.1) = false := decide_eq_false h1
    rw [hd, Bool.false_or]
    cases h2 : (a.1 == b.1)
    · rw [Bool.false_and]
      clear HS
      go_enter Try.func51, Try.ntmps51
      go_wp2_with fail
      go_ret
      exact ⟨rfl, HB.out⟩
    · rw [Bool.true_and]
      by_cases h3 : a.2.1 < b.2.1
      · rw [decide_eq_true h3]
        clear HS
        go_enter Try.func51, Try.ntmps51
        go_wp2_with fail
        go_ret
        exact ⟨rfl, HB.out⟩
      · rw [decide_eq_false h3]
        clear HS
        go_enter Try.func51, Try.ntmps51
        go_wp2_with fail
        go_ret
        exact ⟨rfl, HB.out⟩
/-- lay, of a span that isSpan takes. -/
theorem slay2 (w : World) (t : Nat) (L : List Sp) (s : Sp) (h : Tb w t L) (hG : GS L) (hs : isA (ar s) = true) : Calls Try.prog 39 #[pq t, sv s] w fun e w' => e = .returned (.bool (layB (L.map ar) (ar s))) ∧ Tb w' t (if layB (L.map ar) (ar s) = true then L ++ [s] else L) ∧ Touch t w w' := by
  obtain ⟨p, f, n, o⟩ := s
  have hi := isA_of hs
  simp only [ar] at hi
  obtain ⟨r, rfl⟩ : ∃ r : Nat, p = (r : Int) + 1 := ⟨(p - 1).toNat, by omega⟩
  obtain ⟨F, rfl⟩ : ∃ F : Nat, f = (F : Int) := ⟨f.toNat, by omega⟩
  obtain ⟨m, rfl⟩ : ∃ m : Nat, n = (m : Int) := ⟨n.toNat, by omega⟩
  exact slay_ok w t r F m o L h hG (by omega) (by omega) (by omega)
def LoadS (w' : World) (t : Nat) (X : List Sp) (e : Ending) : Prop := (Lg X ∧ e = .returned (.tuple #[pq t, i64 0]) ∧ Tb w' t X) ∨ (¬ Lg X ∧ e = .returned (.tuple #[.pointer none, i64 4]))
/-- The region's memory: the copy of the span, and the one ahead of it. -/
def Mem (xb : Nat) (s : Sp) (W : World) : Prop := W.heap[xb]? = some (sO s 71)
def Mem2 (xb : Nat) (s : Sp) (g o : Nat) (y : Sp) (W : World) : Prop := W.heap[xb]? = some (sO s 71) ∧ W.cell? ⟨g, o, none⟩ = some (i64 y.1) ∧ W.cell? ⟨g, o + 1, none⟩ = some (i64 y.2.1) ∧ W.cell? ⟨g, o + 2, none⟩ = some (i64 y.2.2.1) ∧ W.cell? ⟨g, o + 3, none⟩ = some (i64 y.2.2.2)
set_option maxRecDepth 100000 in
set_option maxHeartbeats 12800000 in
theorem sload_ok (w : World) (ao : Option Addr) (cap : Nat) (X : List Sp) (hX : X.length ≤ 1000) (hR : Rd4 w ao X) (hMX : ∀ x ∈ X, x.2.1 ≤ 9223372036854775807) : Calls Try.prog 28 #[.slice ao X.length cap] w fun e w' => LoadS w' w.heap.size X e ∧ Below w.heap.size w w' := by
  have HR := hid hR
  have HMX := hid hMX
  have HNw := hid (snew_ok w)
  obtain ⟨t, ht⟩ : ∃ t, t = w.heap.size := ⟨_, rfl⟩
  have HBase := hid ht
  rw [← ht] at HNw ⊢
  obtain ⟨N, hN⟩ : ∃ N, N = X.length := ⟨_, rfl⟩
  have HN := hid hN
  rw [← hN] at hX ⊢
  clear hR hMX hN ht
  go_enter Try.func28, Try.ntmps28
  go_wp2_with fail
  refine HNw.out.mono ?_
  rintro e w1 ⟨rfl, ht1, hb1⟩
  have HT1 := hid ht1
  have HB1 : Hid (Below t w w1) := hb1
  clear ht1 hb1 HNw
  go_wp2_with fail
  go_loopw [10] (fun u wr => ∃ (k : Nat), k ≤ N ∧ u = i64 k ∧ Hid (Tb wr t (X.take k)) ∧ Hid (GS (X.take k)) ∧ Hid ((X.take k).Pairwise ahP) ∧ Hid (Below t w wr)) (fun u _ => N - (intOf u).toNat)
  case atStart => exact ⟨0, by omega, rfl, HT1, GS.nil, .nil, HB1⟩
  case round =>
    obtain ⟨k, hk, rfl, HT, HGS, HSr, HB⟩ := hrel
    by_cases hlt : k < N
    · have hkI : (k : Int) < N := by omega
      obtain ⟨s, hs⟩ : ∃ s, X[k]? = some s := ⟨_, List.getElem?_eq_getElem (by rw [← HN.out]; exact hlt)⟩
      have HXk := hid hs
      obtain ⟨g, o, rfl, hgl, c0, c1, c2, c3⟩ := (HR.out.below (HBase.out ▸ HB.out)) k s hs
      have HTV : Hid (Tb (wr.alloc (sO s 71)) t (X.take k)) := HT.out.alloc _
      have HBV : Hid (Below t w (wr.alloc (sO s 71))) := HB.out.alloc (Nat.le_of_lt HT.out.lt) _
      have HX0 := hid (heap_last wr (sO s 71))
      have HXT : Hid (t < wr.heap.size) := HT.out.lt
      clear hs
      by_cases hsp : spB s = true
      · have HSB := hid hsp
        have HIA : Hid (isA (ar s) = true) := (spB_iff.1 hsp).1
        have HPR : Hid (s.2.2.2 = 1 ∨ s.2.2.2 = 3) := (spB_iff.1 hsp).2
        clear hsp
        by_cases hk0 : k = 0
        · have HK0 := hid hk0
          have HS00 : Hid (Mem wr.heap.size s (wr.alloc (sO s 71))) := HX0.out
          cases hlb : layB ((X.take k).map ar) (ar s)
          · have HLB := hid hlb
            have HNO : Hid (¬ Lg X) := fun h => gs_bad HXk.out (fun h => by rw [HLB.out] at h; exact absurd h.2.2 (by decide)) h.1
            clear hlb hk0
            have HSp := hid (span_ok (wr.alloc (sO s 71)).drew s (HMX.out s (List.mem_of_getElem? HXk.out)))
            rw [HSB.out] at HSp
            have HT0 : Hid (Tb (wr.alloc (sO s 71)).drew t (X.take k)) := ⟨HTV.out.blk⟩
            have HB0 : Hid (Below t w (wr.alloc (sO s 71)).drew) := HBV.out.drew
            go_upto_region 5 with fail
            have HS0 : Hid (Mem wr.heap.size s (wr.alloc (sO s 71)).drew) := HS00.out
            refine wp_region_noPanic ?_
            refine wp_region_last (Mem wr.heap.size s) 22 (by kernel_rfl) ?_
            refine wpL_take 0 15 (sv s) [1, 3, 16, 17] rfl rfl (by kernel_rfl) (by decide) (by kernel_rfl) (by kernel_rfl) (by kernel_rfl) (fun _ _ _ h => h) HS0.out (by rfl) (fun W hW => by have hW0 : W.heap[wr.heap.size]? = some (sO s 71) := hW; obtain ⟨z0, z1, z2, z3⟩ := four_cells hW0; go_simp) ?_
            simp only [Act.put, List.setIfInBounds_toArray, List.set_cons_zero, List.set_cons_succ]
            refine wpL_one 1 rfl (by kernel_rfl) (by rfl) (fun K hK => ?_)
            go_simp
            refine HSp.out.mono ?_
            rintro e q1 ⟨rfl, hb⟩
            have HS1 : Hid (Mem wr.heap.size s q1) := blk_below HS0.out hb
            have HT1 := hid (HT0.out.below hb)
            have HB1 : Hid (Below t w q1) := HB0.out.trans (hb.mono (Nat.le_of_lt HT0.out.lt))
            have HLy := hid (slay2 q1 t (X.take k) s HT1.out HGS.out HIA.out)
            rw [HLB.out] at HLy
            clear hb
            go_simp
            refine hK.out _ _ (fun _ => HS1.out) ?_
            clear hK K
            refine wpL_take 2 17 (.bool false) [3, 16, 17] rfl rfl (by kernel_rfl) (by decide) (by kernel_rfl) (by kernel_rfl) (by kernel_rfl) (fun _ _ _ h => h) HS1.out (by rfl) (fun W hW => by have hW0 : W.heap[wr.heap.size]? = some (sO s 71) := hW; obtain ⟨z0, z1, z2, z3⟩ := four_cells hW0; go_simp) ?_
            simp only [Act.put, List.setIfInBounds_toArray, List.set_cons_zero, List.set_cons_succ]
            refine wpL_take 3 18 (.bool false) [16, 17] rfl rfl (by kernel_rfl) (by decide) (by kernel_rfl) (by kernel_rfl) (by kernel_rfl) (fun _ _ _ h => h) HS1.out (by rfl) (fun W hW => by have hW0 : W.heap[wr.heap.size]? = some (sO s 71) := hW; obtain ⟨z0, z1, z2, z3⟩ := four_cells hW0; go_simp) ?_
            simp only [Act.put, List.setIfInBounds_toArray, List.set_cons_zero, List.set_cons_succ]
            refine wpL_take 4 19 (i64 k) [5, 6, 13, 17] rfl rfl (by kernel_rfl) (by decide) (by kernel_rfl) (by kernel_rfl) (by kernel_rfl) (fun _ _ _ h => h) HS1.out (by rfl) (fun W hW => by have hW0 : W.heap[wr.heap.size]? = some (sO s 71) := hW; obtain ⟨z0, z1, z2, z3⟩ := four_cells hW0; go_simp) ?_
            simp only [Act.put, List.setIfInBounds_toArray, List.set_cons_zero, List.set_cons_succ]
            refine wpL_take 5 20 (.bool false) [6, 13, 17] rfl rfl (by kernel_rfl) (by decide) (by kernel_rfl) (by kernel_rfl) (by kernel_rfl) (fun _ _ _ h => h) HS1.out (by rfl) (fun W hW => by have hW0 : W.heap[wr.heap.size]? = some (sO s 71) := hW; obtain ⟨z0, z1, z2, z3⟩ := four_cells hW0; go_simp; exact HK0.out) ?_
            simp only [Act.put, List.setIfInBounds_toArray, List.set_cons_zero, List.set_cons_succ]
            refine wpL_take 6 21 (.bool false) [13, 17] rfl rfl (by kernel_rfl) (by decide) (by kernel_rfl) (by kernel_rfl) (by kernel_rfl) (fun _ _ _ h => h) HS1.out (by rfl) (fun W hW => by have hW0 : W.heap[wr.heap.size]? = some (sO s 71) := hW; obtain ⟨z0, z1, z2, z3⟩ := four_cells hW0; go_simp) ?_
            simp only [Act.put, List.setIfInBounds_toArray, List.set_cons_zero, List.set_cons_succ]
            refine wpL_skip 7 22 [10, 11, 13, 17] rfl rfl (by kernel_rfl) (by decide) (by kernel_rfl) (by kernel_rfl) (by kernel_rfl) (fun _ _ _ h => h) HS1.out (by rfl) ?_
            simp only [Act.put, List.setIfInBounds_toArray, List.set_cons_zero, List.set_cons_succ]
            refine wpL_skip 8 23 [9, 10, 11, 13, 17] rfl rfl (by kernel_rfl) (by decide) (by kernel_rfl) (by kernel_rfl) (by kernel_rfl) (fun _ _ _ h => h) HS1.out (by rfl) ?_
            simp only [Act.put, List.setIfInBounds_toArray, List.set_cons_zero, List.set_cons_succ]
            refine wpL_skip 9 24 [10, 11, 13, 17] rfl rfl (by kernel_rfl) (by decide) (by kernel_rfl) (by kernel_rfl) (by kernel_rfl) (fun _ _ _ h => h) HS1.out (by rfl) ?_
            simp only [Act.put, List.setIfInBounds_toArray, List.set_cons_zero, List.set_cons_succ]
            refine wpL_skip 10 25 [11, 13, 17] rfl rfl (by kernel_rfl) (by decide) (by kernel_rfl) (by kernel_rfl) (by kernel_rfl) (fun _ _ _ h => h) HS1.out (by rfl) ?_
            simp only [Act.put, List.setIfInBounds_toArray, List.set_cons_zero, List.set_cons_succ]
            refine wpL_skip 11 26 [13, 17] rfl rfl (by kernel_rfl) (by decide) (by kernel_rfl) (by kernel_rfl) (by kernel_rfl) (fun _ _ _ h => h) HS1.out (by rfl) ?_
            simp only [Act.put, List.setIfInBounds_toArray, List.set_cons_zero, List.set_cons_succ]
            refine wpL_skip 12 27 [13, 17] rfl rfl (by kernel_rfl) (by decide) (by kernel_rfl) (by kernel_rfl) (by kernel_rfl) (fun _ _ _ h => h) HS1.out (by rfl) ?_
            simp only [Act.put, List.setIfInBounds_toArray, List.set_cons_zero, List.set_cons_succ]
            refine wpL_skip 13 28 [17] rfl rfl (by kernel_rfl) (by decide) (by kernel_rfl) (by kernel_rfl) (by kernel_rfl) (fun _ _ _ h => h) HS1.out (by rfl) ?_
            simp only [Act.put, List.setIfInBounds_toArray, List.set_cons_zero, List.set_cons_succ]
            refine wpL_skip 14 29 [15, 16, 17] rfl rfl (by kernel_rfl) (by decide) (by kernel_rfl) (by kernel_rfl) (by kernel_rfl) (fun _ _ _ h => h) HS1.out (by rfl) ?_
            simp only [Act.put, List.setIfInBounds_toArray, List.set_cons_zero, List.set_cons_succ]
            refine wpL_take 15 30 (.bool false) [16, 17] rfl rfl (by kernel_rfl) (by decide) (by kernel_rfl) (by kernel_rfl) (by kernel_rfl) (fun _ _ _ h => h) HS1.out (by rfl) (fun W hW => by have hW0 : W.heap[wr.heap.size]? = some (sO s 71) := hW; obtain ⟨z0, z1, z2, z3⟩ := four_cells hW0; go_simp) ?_
            simp only [Act.put, List.setIfInBounds_toArray, List.set_cons_zero, List.set_cons_succ]
            refine wpL_take 16 31 (.bool false) [17] rfl rfl (by kernel_rfl) (by decide) (by kernel_rfl) (by kernel_rfl) (by kernel_rfl) (fun _ _ _ h => h) HS1.out (by rfl) (fun W hW => by have hW0 : W.heap[wr.heap.size]? = some (sO s 71) := hW; obtain ⟨z0, z1, z2, z3⟩ := four_cells hW0; go_simp) ?_
            simp only [Act.put, List.setIfInBounds_toArray, List.set_cons_zero, List.set_cons_succ]
            refine wpL_take 17 32 (.bool false) [] rfl rfl (by kernel_rfl) (by decide) (by kernel_rfl) (by kernel_rfl) (by kernel_rfl) (fun _ _ _ h => h) HS1.out (by rfl) (fun W hW => by have hW0 : W.heap[wr.heap.size]? = some (sO s 71) := hW; obtain ⟨z0, z1, z2, z3⟩ := four_cells hW0; go_simp) ?_
            simp only [Act.put, List.setIfInBounds_toArray, List.set_cons_zero, List.set_cons_succ]
            refine wpL_take 18 33 (pq t) [20, 21] rfl rfl (by kernel_rfl) (by decide) (by kernel_rfl) (by kernel_rfl) (by kernel_rfl) (fun _ _ _ h => h) HS1.out (by rfl) (fun W hW => by have hW0 : W.heap[wr.heap.size]? = some (sO s 71) := hW; obtain ⟨z0, z1, z2, z3⟩ := four_cells hW0; go_simp) ?_
            simp only [Act.put, List.setIfInBounds_toArray, List.set_cons_zero, List.set_cons_succ]
            refine wpL_take 19 34 (sv s) [20, 21] rfl rfl (by kernel_rfl) (by decide) (by kernel_rfl) (by kernel_rfl) (by kernel_rfl) (fun _ _ _ h => h) HS1.out (by rfl) (fun W hW => by have hW0 : W.heap[wr.heap.size]? = some (sO s 71) := hW; obtain ⟨z0, z1, z2, z3⟩ := four_cells hW0; go_simp) ?_
            simp only [Act.put, List.setIfInBounds_toArray, List.set_cons_zero, List.set_cons_succ]
            refine wpL_one 20 rfl (by kernel_rfl) (by rfl) (fun K hK => ?_)
            go_simp
            refine HLy.out.mono ?_
            rintro e q2 ⟨rfl, hT, ho⟩
            have HT2 : Hid (Tb q2 t (X.take k)) := hT
            have HS2 : Hid (Mem wr.heap.size s q2) := (ho.block _ (blk_lt HS1.out) (by have := HXT.out; omega)).trans HS1.out
            have HB2 : Hid (Below t w q2) := HB1.out.trans (ho.below (Nat.le_refl _) (Nat.le_of_lt HT1.out.lt))
            clear hT ho
            go_simp
            refine hK.out _ _ (fun _ => HS2.out) ?_
            clear hK K
            refine wpL_take 21 36 (.bool true) [] rfl rfl (by kernel_rfl) (by decide) (by kernel_rfl) (by kernel_rfl) (by kernel_rfl) (fun _ _ _ h => h) HS2.out (by rfl) (fun W hW => by have hW0 : W.heap[wr.heap.size]? = some (sO s 71) := hW; obtain ⟨z0, z1, z2, z3⟩ := four_cells hW0; go_simp) ?_
            simp only [Act.put, List.setIfInBounds_toArray, List.set_cons_zero, List.set_cons_succ]
            refine wpL_one 22 rfl (by kernel_rfl) (by rfl) (fun K hK => ?_)
            go_simp
            refine hK.out _ _ (fun h => absurd rfl h) ?_
            clear hK K
            refine wpL_done (by kernel_rfl) ?_
            refine NoPanic.normal ?_
            go_wp2_with fail
            go_ret2
            exact ⟨.inr ⟨HNO.out, rfl⟩, (HBase.out ▸ HB2.out)⟩
          · have HLB := hid hlb
            have HGN : Hid (GS (X.take (k + 1))) := gs_next HGS.out HXk.out HIA.out hlb HPR.out
            have HSN : Hid ((X.take (k + 1)).Pairwise ahP) := srt_next HSr.out HXk.out (.inl hk0)
            clear hlb hk0
            have HSp := hid (span_ok (wr.alloc (sO s 71)).drew s (HMX.out s (List.mem_of_getElem? HXk.out)))
            rw [HSB.out] at HSp
            have HT0 : Hid (Tb (wr.alloc (sO s 71)).drew t (X.take k)) := ⟨HTV.out.blk⟩
            have HB0 : Hid (Below t w (wr.alloc (sO s 71)).drew) := HBV.out.drew
            go_upto_region 5 with fail
            have HS0 : Hid (Mem wr.heap.size s (wr.alloc (sO s 71)).drew) := HS00.out
            refine wp_region_noPanic ?_
            refine wp_region_last (Mem wr.heap.size s) 22 (by kernel_rfl) ?_
            refine wpL_take 0 15 (sv s) [1, 3, 16, 17] rfl rfl (by kernel_rfl) (by decide) (by kernel_rfl) (by kernel_rfl) (by kernel_rfl) (fun _ _ _ h => h) HS0.out (by rfl) (fun W hW => by have hW0 : W.heap[wr.heap.size]? = some (sO s 71) := hW; obtain ⟨z0, z1, z2, z3⟩ := four_cells hW0; go_simp) ?_
            simp only [Act.put, List.setIfInBounds_toArray, List.set_cons_zero, List.set_cons_succ]
            refine wpL_one 1 rfl (by kernel_rfl) (by rfl) (fun K hK => ?_)
            go_simp
            refine HSp.out.mono ?_
            rintro e q1 ⟨rfl, hb⟩
            have HS1 : Hid (Mem wr.heap.size s q1) := blk_below HS0.out hb
            have HT1 := hid (HT0.out.below hb)
            have HB1 : Hid (Below t w q1) := HB0.out.trans (hb.mono (Nat.le_of_lt HT0.out.lt))
            have HLy := hid (slay2 q1 t (X.take k) s HT1.out HGS.out HIA.out)
            rw [HLB.out] at HLy
            clear hb
            go_simp
            refine hK.out _ _ (fun _ => HS1.out) ?_
            clear hK K
            refine wpL_take 2 17 (.bool false) [3, 16, 17] rfl rfl (by kernel_rfl) (by decide) (by kernel_rfl) (by kernel_rfl) (by kernel_rfl) (fun _ _ _ h => h) HS1.out (by rfl) (fun W hW => by have hW0 : W.heap[wr.heap.size]? = some (sO s 71) := hW; obtain ⟨z0, z1, z2, z3⟩ := four_cells hW0; go_simp) ?_
            simp only [Act.put, List.setIfInBounds_toArray, List.set_cons_zero, List.set_cons_succ]
            refine wpL_take 3 18 (.bool false) [16, 17] rfl rfl (by kernel_rfl) (by decide) (by kernel_rfl) (by kernel_rfl) (by kernel_rfl) (fun _ _ _ h => h) HS1.out (by rfl) (fun W hW => by have hW0 : W.heap[wr.heap.size]? = some (sO s 71) := hW; obtain ⟨z0, z1, z2, z3⟩ := four_cells hW0; go_simp) ?_
            simp only [Act.put, List.setIfInBounds_toArray, List.set_cons_zero, List.set_cons_succ]
            refine wpL_take 4 19 (i64 k) [5, 6, 13, 17] rfl rfl (by kernel_rfl) (by decide) (by kernel_rfl) (by kernel_rfl) (by kernel_rfl) (fun _ _ _ h => h) HS1.out (by rfl) (fun W hW => by have hW0 : W.heap[wr.heap.size]? = some (sO s 71) := hW; obtain ⟨z0, z1, z2, z3⟩ := four_cells hW0; go_simp) ?_
            simp only [Act.put, List.setIfInBounds_toArray, List.set_cons_zero, List.set_cons_succ]
            refine wpL_take 5 20 (.bool false) [6, 13, 17] rfl rfl (by kernel_rfl) (by decide) (by kernel_rfl) (by kernel_rfl) (by kernel_rfl) (fun _ _ _ h => h) HS1.out (by rfl) (fun W hW => by have hW0 : W.heap[wr.heap.size]? = some (sO s 71) := hW; obtain ⟨z0, z1, z2, z3⟩ := four_cells hW0; go_simp; exact HK0.out) ?_
            simp only [Act.put, List.setIfInBounds_toArray, List.set_cons_zero, List.set_cons_succ]
            refine wpL_take 6 21 (.bool false) [13, 17] rfl rfl (by kernel_rfl) (by decide) (by kernel_rfl) (by kernel_rfl) (by kernel_rfl) (fun _ _ _ h => h) HS1.out (by rfl) (fun W hW => by have hW0 : W.heap[wr.heap.size]? = some (sO s 71) := hW; obtain ⟨z0, z1, z2, z3⟩ := four_cells hW0; go_simp) ?_
            simp only [Act.put, List.setIfInBounds_toArray, List.set_cons_zero, List.set_cons_succ]
            refine wpL_skip 7 22 [10, 11, 13, 17] rfl rfl (by kernel_rfl) (by decide) (by kernel_rfl) (by kernel_rfl) (by kernel_rfl) (fun _ _ _ h => h) HS1.out (by rfl) ?_
            simp only [Act.put, List.setIfInBounds_toArray, List.set_cons_zero, List.set_cons_succ]
            refine wpL_skip 8 23 [9, 10, 11, 13, 17] rfl rfl (by kernel_rfl) (by decide) (by kernel_rfl) (by kernel_rfl) (by kernel_rfl) (fun _ _ _ h => h) HS1.out (by rfl) ?_
            simp only [Act.put, List.setIfInBounds_toArray, List.set_cons_zero, List.set_cons_succ]
            refine wpL_skip 9 24 [10, 11, 13, 17] rfl rfl (by kernel_rfl) (by decide) (by kernel_rfl) (by kernel_rfl) (by kernel_rfl) (fun _ _ _ h => h) HS1.out (by rfl) ?_
            simp only [Act.put, List.setIfInBounds_toArray, List.set_cons_zero, List.set_cons_succ]
            refine wpL_skip 10 25 [11, 13, 17] rfl rfl (by kernel_rfl) (by decide) (by kernel_rfl) (by kernel_rfl) (by kernel_rfl) (fun _ _ _ h => h) HS1.out (by rfl) ?_
            simp only [Act.put, List.setIfInBounds_toArray, List.set_cons_zero, List.set_cons_succ]
            refine wpL_skip 11 26 [13, 17] rfl rfl (by kernel_rfl) (by decide) (by kernel_rfl) (by kernel_rfl) (by kernel_rfl) (fun _ _ _ h => h) HS1.out (by rfl) ?_
            simp only [Act.put, List.setIfInBounds_toArray, List.set_cons_zero, List.set_cons_succ]
            refine wpL_skip 12 27 [13, 17] rfl rfl (by kernel_rfl) (by decide) (by kernel_rfl) (by kernel_rfl) (by kernel_rfl) (fun _ _ _ h => h) HS1.out (by rfl) ?_
            simp only [Act.put, List.setIfInBounds_toArray, List.set_cons_zero, List.set_cons_succ]
            refine wpL_skip 13 28 [17] rfl rfl (by kernel_rfl) (by decide) (by kernel_rfl) (by kernel_rfl) (by kernel_rfl) (fun _ _ _ h => h) HS1.out (by rfl) ?_
            simp only [Act.put, List.setIfInBounds_toArray, List.set_cons_zero, List.set_cons_succ]
            refine wpL_skip 14 29 [15, 16, 17] rfl rfl (by kernel_rfl) (by decide) (by kernel_rfl) (by kernel_rfl) (by kernel_rfl) (fun _ _ _ h => h) HS1.out (by rfl) ?_
            simp only [Act.put, List.setIfInBounds_toArray, List.set_cons_zero, List.set_cons_succ]
            refine wpL_take 15 30 (.bool false) [16, 17] rfl rfl (by kernel_rfl) (by decide) (by kernel_rfl) (by kernel_rfl) (by kernel_rfl) (fun _ _ _ h => h) HS1.out (by rfl) (fun W hW => by have hW0 : W.heap[wr.heap.size]? = some (sO s 71) := hW; obtain ⟨z0, z1, z2, z3⟩ := four_cells hW0; go_simp) ?_
            simp only [Act.put, List.setIfInBounds_toArray, List.set_cons_zero, List.set_cons_succ]
            refine wpL_take 16 31 (.bool false) [17] rfl rfl (by kernel_rfl) (by decide) (by kernel_rfl) (by kernel_rfl) (by kernel_rfl) (fun _ _ _ h => h) HS1.out (by rfl) (fun W hW => by have hW0 : W.heap[wr.heap.size]? = some (sO s 71) := hW; obtain ⟨z0, z1, z2, z3⟩ := four_cells hW0; go_simp) ?_
            simp only [Act.put, List.setIfInBounds_toArray, List.set_cons_zero, List.set_cons_succ]
            refine wpL_take 17 32 (.bool false) [] rfl rfl (by kernel_rfl) (by decide) (by kernel_rfl) (by kernel_rfl) (by kernel_rfl) (fun _ _ _ h => h) HS1.out (by rfl) (fun W hW => by have hW0 : W.heap[wr.heap.size]? = some (sO s 71) := hW; obtain ⟨z0, z1, z2, z3⟩ := four_cells hW0; go_simp) ?_
            simp only [Act.put, List.setIfInBounds_toArray, List.set_cons_zero, List.set_cons_succ]
            refine wpL_take 18 33 (pq t) [20, 21] rfl rfl (by kernel_rfl) (by decide) (by kernel_rfl) (by kernel_rfl) (by kernel_rfl) (fun _ _ _ h => h) HS1.out (by rfl) (fun W hW => by have hW0 : W.heap[wr.heap.size]? = some (sO s 71) := hW; obtain ⟨z0, z1, z2, z3⟩ := four_cells hW0; go_simp) ?_
            simp only [Act.put, List.setIfInBounds_toArray, List.set_cons_zero, List.set_cons_succ]
            refine wpL_take 19 34 (sv s) [20, 21] rfl rfl (by kernel_rfl) (by decide) (by kernel_rfl) (by kernel_rfl) (by kernel_rfl) (fun _ _ _ h => h) HS1.out (by rfl) (fun W hW => by have hW0 : W.heap[wr.heap.size]? = some (sO s 71) := hW; obtain ⟨z0, z1, z2, z3⟩ := four_cells hW0; go_simp) ?_
            simp only [Act.put, List.setIfInBounds_toArray, List.set_cons_zero, List.set_cons_succ]
            refine wpL_one 20 rfl (by kernel_rfl) (by rfl) (fun K hK => ?_)
            go_simp
            refine HLy.out.mono ?_
            rintro e q2 ⟨rfl, hT, ho⟩
            have HT2 : Hid (Tb q2 t (X.take k ++ [s])) := hT
            have HS2 : Hid (Mem wr.heap.size s q2) := (ho.block _ (blk_lt HS1.out) (by have := HXT.out; omega)).trans HS1.out
            have HB2 : Hid (Below t w q2) := HB1.out.trans (ho.below (Nat.le_refl _) (Nat.le_of_lt HT1.out.lt))
            clear hT ho
            go_simp
            refine hK.out _ _ (fun _ => HS2.out) ?_
            clear hK K
            refine wpL_take 21 36 (.bool false) [] rfl rfl (by kernel_rfl) (by decide) (by kernel_rfl) (by kernel_rfl) (by kernel_rfl) (fun _ _ _ h => h) HS2.out (by rfl) (fun W hW => by have hW0 : W.heap[wr.heap.size]? = some (sO s 71) := hW; obtain ⟨z0, z1, z2, z3⟩ := four_cells hW0; go_simp) ?_
            simp only [Act.put, List.setIfInBounds_toArray, List.set_cons_zero, List.set_cons_succ]
            refine wpL_one 22 rfl (by kernel_rfl) (by rfl) (fun K hK => ?_)
            go_simp
            refine hK.out _ _ (fun h => absurd rfl h) ?_
            clear hK K
            refine wpL_done (by kernel_rfl) ?_
            refine NoPanic.normal ?_
            go_wp2_with fail
            have HTn : Hid (Tb q2 t (X.take (k + 1))) := by rw [takeS_last HXk.out]; exact HT2.out
            exact ⟨⟨k + 1, by omega, by go_num, HTn, HGN, HSN, HB2⟩, by simp [intOf]; omega⟩
        · obtain ⟨j, hkj⟩ : ∃ j, k = j + 1 := ⟨k - 1, by omega⟩
          have HKJ := hid hkj
          have HXj : Hid (X[j + 1]? = some s) := by rw [Hid, ← hkj]; exact HXk.out
          obtain ⟨y, hy⟩ : ∃ y, X[j]? = some y := ⟨_, List.getElem?_eq_getElem (by rw [← HN.out]; omega)⟩
          have HYj := hid hy
          obtain ⟨g2, o2, hgo, hgl2, d0, d1, d2, d3⟩ := (HR.out.below (HBase.out ▸ HB.out)) j y hy
          simp only [Option.some.injEq, Addr.mk.injEq] at hgo
          obtain ⟨rfl, rfl, _⟩ := hgo
          have hgw : g < w.heap.size := (HR.out j y hy).elim fun g3 h => h.elim fun o3 h => by
            have := h.1
            simp only [Option.some.injEq, Addr.mk.injEq] at this
            rw [this.1]; exact h.2.1
          have HGT : Hid (g ≠ t) := by have := HBase.out; intro e; omega
          have HGLs : Hid (g < (wr.alloc (sO s 71)).heap.size) := Nat.lt_of_lt_of_le hgl (below_one wr _).size
          have HKP : Hid (0 < k) := by show 0 < k; omega
          have hkw : IntKind.i64.wrap ((k : Int) - 1) = (j : Int) := by rw [wrap_id (by omega) (by omega)]; omega
          have hjI : (j : Int) < N := by omega
          have hj0 : (0 : Int) ≤ j := by omega
          have HS00 : Hid (Mem2 wr.heap.size s g (o + j * 4) y (wr.alloc (sO s 71))) := ⟨HX0.out, by rw [(below_one wr _).cell (by exact hgl)]; exact d0, by rw [(below_one wr _).cell (by exact hgl)]; exact d1, by rw [(below_one wr _).cell (by exact hgl)]; exact d2, by rw [(below_one wr _).cell (by exact hgl)]; exact d3⟩
          clear hy hk0 d0 d1 d2 d3 hgw hgl2 hkj
          cases hah : ahB y s
          · have HAB := hid hah
            have HNO : Hid (¬ Lg X) := fun h => srt_bad HYj.out HXj.out (fun h => by rw [← ahB_iff, HAB.out] at h; cases h) h.2
            clear hah
            have HSp := hid (span_ok (wr.alloc (sO s 71)).drew s (HMX.out s (List.mem_of_getElem? HXk.out)))
            rw [HSB.out] at HSp
            have HT0 : Hid (Tb (wr.alloc (sO s 71)).drew t (X.take k)) := ⟨HTV.out.blk⟩
            have HB0 : Hid (Below t w (wr.alloc (sO s 71)).drew) := HBV.out.drew
            have HGL0 : Hid (g < (wr.alloc (sO s 71)).drew.heap.size) := HGLs.out
            go_upto_region 5 with fail
            have HS0 : Hid (Mem2 wr.heap.size s g (o + j * 4) y (wr.alloc (sO s 71)).drew) := HS00.out
            refine wp_region_noPanic ?_
            refine wp_region_last (Mem2 wr.heap.size s g (o + j * 4) y) 22 (by kernel_rfl) ?_
            refine wpL_take 0 15 (sv s) [1, 3, 16, 17] rfl rfl (by kernel_rfl) (by decide) (by kernel_rfl) (by kernel_rfl) (by kernel_rfl) (fun _ _ _ h => h) HS0.out (by rfl) (fun W hW => by obtain ⟨hW0, v0, v1, v2, v3⟩ := hW; obtain ⟨z0, z1, z2, z3⟩ := four_cells hW0; go_simp) ?_
            simp only [Act.put, List.setIfInBounds_toArray, List.set_cons_zero, List.set_cons_succ]
            refine wpL_one 1 rfl (by kernel_rfl) (by rfl) (fun K hK => ?_)
            go_simp
            refine HSp.out.mono ?_
            rintro e q1 ⟨rfl, hb⟩
            have HS1 : Hid (Mem2 wr.heap.size s g (o + j * 4) y q1) := ⟨blk_below HS0.out.1 hb, by rw [hb.cell (by exact HGL0.out)]; exact HS0.out.2.1, by rw [hb.cell (by exact HGL0.out)]; exact HS0.out.2.2.1, by rw [hb.cell (by exact HGL0.out)]; exact HS0.out.2.2.2.1, by rw [hb.cell (by exact HGL0.out)]; exact HS0.out.2.2.2.2⟩
            have HT1 := hid (HT0.out.below hb)
            have HB1 : Hid (Below t w q1) := HB0.out.trans (hb.mono (Nat.le_of_lt HT0.out.lt))
            have HGL1 : Hid (g < q1.heap.size) := Nat.lt_of_lt_of_le HGL0.out hb.size
            have HAh := hid (ahead_ok q1 y s)
            rw [HAB.out] at HAh
            clear hb
            go_simp
            refine hK.out _ _ (fun _ => HS1.out) ?_
            clear hK K
            refine wpL_take 2 17 (.bool false) [3, 16, 17] rfl rfl (by kernel_rfl) (by decide) (by kernel_rfl) (by kernel_rfl) (by kernel_rfl) (fun _ _ _ h => h) HS1.out (by rfl) (fun W hW => by obtain ⟨hW0, v0, v1, v2, v3⟩ := hW; obtain ⟨z0, z1, z2, z3⟩ := four_cells hW0; go_simp) ?_
            simp only [Act.put, List.setIfInBounds_toArray, List.set_cons_zero, List.set_cons_succ]
            refine wpL_take 3 18 (.bool false) [16, 17] rfl rfl (by kernel_rfl) (by decide) (by kernel_rfl) (by kernel_rfl) (by kernel_rfl) (fun _ _ _ h => h) HS1.out (by rfl) (fun W hW => by obtain ⟨hW0, v0, v1, v2, v3⟩ := hW; obtain ⟨z0, z1, z2, z3⟩ := four_cells hW0; go_simp) ?_
            simp only [Act.put, List.setIfInBounds_toArray, List.set_cons_zero, List.set_cons_succ]
            refine wpL_take 4 19 (i64 k) [5, 6, 13, 17] rfl rfl (by kernel_rfl) (by decide) (by kernel_rfl) (by kernel_rfl) (by kernel_rfl) (fun _ _ _ h => h) HS1.out (by rfl) (fun W hW => by obtain ⟨hW0, v0, v1, v2, v3⟩ := hW; obtain ⟨z0, z1, z2, z3⟩ := four_cells hW0; go_simp) ?_
            simp only [Act.put, List.setIfInBounds_toArray, List.set_cons_zero, List.set_cons_succ]
            refine wpL_take 5 20 (.bool true) [6, 13, 17] rfl rfl (by kernel_rfl) (by decide) (by kernel_rfl) (by kernel_rfl) (by kernel_rfl) (fun _ _ _ h => h) HS1.out (by rfl) (fun W hW => by obtain ⟨hW0, v0, v1, v2, v3⟩ := hW; obtain ⟨z0, z1, z2, z3⟩ := four_cells hW0; go_simp; exact HKP.out) ?_
            simp only [Act.put, List.setIfInBounds_toArray, List.set_cons_zero, List.set_cons_succ]
            refine wpL_take 6 21 (.bool true) [13, 17] rfl rfl (by kernel_rfl) (by decide) (by kernel_rfl) (by kernel_rfl) (by kernel_rfl) (fun _ _ _ h => h) HS1.out (by rfl) (fun W hW => by obtain ⟨hW0, v0, v1, v2, v3⟩ := hW; obtain ⟨z0, z1, z2, z3⟩ := four_cells hW0; go_simp) ?_
            simp only [Act.put, List.setIfInBounds_toArray, List.set_cons_zero, List.set_cons_succ]
            refine wpL_take 7 22 (.slice (some ⟨g, o, none⟩) N cap) [10, 11, 13, 17] rfl rfl (by kernel_rfl) (by decide) (by kernel_rfl) (by kernel_rfl) (by kernel_rfl) (fun _ _ _ h => h) HS1.out (by rfl) (fun W hW => by obtain ⟨hW0, v0, v1, v2, v3⟩ := hW; obtain ⟨z0, z1, z2, z3⟩ := four_cells hW0; go_simp) ?_
            simp only [Act.put, List.setIfInBounds_toArray, List.set_cons_zero, List.set_cons_succ]
            refine wpL_take 8 23 (i64 k) [9, 10, 11, 13, 17] rfl rfl (by kernel_rfl) (by decide) (by kernel_rfl) (by kernel_rfl) (by kernel_rfl) (fun _ _ _ h => h) HS1.out (by rfl) (fun W hW => by obtain ⟨hW0, v0, v1, v2, v3⟩ := hW; obtain ⟨z0, z1, z2, z3⟩ := four_cells hW0; go_simp) ?_
            simp only [Act.put, List.setIfInBounds_toArray, List.set_cons_zero, List.set_cons_succ]
            refine wpL_take 9 24 (i64 j) [10, 11, 13, 17] rfl rfl (by kernel_rfl) (by decide) (by kernel_rfl) (by kernel_rfl) (by kernel_rfl) (fun _ _ _ h => h) HS1.out (by rfl) (fun W hW => by obtain ⟨hW0, v0, v1, v2, v3⟩ := hW; obtain ⟨z0, z1, z2, z3⟩ := four_cells hW0; go_simp) ?_
            simp only [Act.put, List.setIfInBounds_toArray, List.set_cons_zero, List.set_cons_succ]
            refine wpL_take 10 25 (.pointer (some ⟨g, o + j * 4, none⟩)) [11, 13, 17] rfl rfl (by kernel_rfl) (by decide) (by kernel_rfl) (by kernel_rfl) (by kernel_rfl) (fun _ _ _ h => h) HS1.out (by rfl) (fun W hW => by obtain ⟨hW0, v0, v1, v2, v3⟩ := hW; obtain ⟨z0, z1, z2, z3⟩ := four_cells hW0; go_simp) ?_
            simp only [Act.put, List.setIfInBounds_toArray, List.set_cons_zero, List.set_cons_succ]
            refine wpL_take 11 26 (sv y) [13, 17] rfl rfl (by kernel_rfl) (by decide) (by kernel_rfl) (by kernel_rfl) (by kernel_rfl) (fun _ _ _ h => h) HS1.out (by rfl) (fun W hW => by obtain ⟨hW0, v0, v1, v2, v3⟩ := hW; obtain ⟨z0, z1, z2, z3⟩ := four_cells hW0; go_simp) ?_
            simp only [Act.put, List.setIfInBounds_toArray, List.set_cons_zero, List.set_cons_succ]
            refine wpL_take 12 27 (sv s) [13, 17] rfl rfl (by kernel_rfl) (by decide) (by kernel_rfl) (by kernel_rfl) (by kernel_rfl) (fun _ _ _ h => h) HS1.out (by rfl) (fun W hW => by obtain ⟨hW0, v0, v1, v2, v3⟩ := hW; obtain ⟨z0, z1, z2, z3⟩ := four_cells hW0; go_simp) ?_
            simp only [Act.put, List.setIfInBounds_toArray, List.set_cons_zero, List.set_cons_succ]
            refine wpL_one 13 rfl (by kernel_rfl) (by rfl) (fun K hK => ?_)
            go_simp
            refine HAh.out.mono ?_
            rintro e q2 ⟨rfl, hb⟩
            have HS2 : Hid (Mem2 wr.heap.size s g (o + j * 4) y q2) := ⟨blk_below HS1.out.1 hb, by rw [hb.cell (by exact HGL1.out)]; exact HS1.out.2.1, by rw [hb.cell (by exact HGL1.out)]; exact HS1.out.2.2.1, by rw [hb.cell (by exact HGL1.out)]; exact HS1.out.2.2.2.1, by rw [hb.cell (by exact HGL1.out)]; exact HS1.out.2.2.2.2⟩
            have HT2 := hid (HT1.out.below hb)
            have HB2 : Hid (Below t w q2) := HB1.out.trans (hb.mono (Nat.le_of_lt HT1.out.lt))
            have HGL2 : Hid (g < q2.heap.size) := Nat.lt_of_lt_of_le HGL1.out hb.size
            clear hb
            go_simp
            refine hK.out _ _ (fun _ => HS2.out) ?_
            clear hK K
            refine wpL_take 14 29 (.bool true) [15, 16, 17] rfl rfl (by kernel_rfl) (by decide) (by kernel_rfl) (by kernel_rfl) (by kernel_rfl) (fun _ _ _ h => h) HS2.out (by rfl) (fun W hW => by obtain ⟨hW0, v0, v1, v2, v3⟩ := hW; obtain ⟨z0, z1, z2, z3⟩ := four_cells hW0; go_simp) ?_
            simp only [Act.put, List.setIfInBounds_toArray, List.set_cons_zero, List.set_cons_succ]
            refine wpL_take 15 30 (.bool true) [16, 17] rfl rfl (by kernel_rfl) (by decide) (by kernel_rfl) (by kernel_rfl) (by kernel_rfl) (fun _ _ _ h => h) HS2.out (by rfl) (fun W hW => by obtain ⟨hW0, v0, v1, v2, v3⟩ := hW; obtain ⟨z0, z1, z2, z3⟩ := four_cells hW0; go_simp) ?_
            simp only [Act.put, List.setIfInBounds_toArray, List.set_cons_zero, List.set_cons_succ]
            refine wpL_take 16 31 (.bool true) [17] rfl rfl (by kernel_rfl) (by decide) (by kernel_rfl) (by kernel_rfl) (by kernel_rfl) (fun _ _ _ h => h) HS2.out (by rfl) (fun W hW => by obtain ⟨hW0, v0, v1, v2, v3⟩ := hW; obtain ⟨z0, z1, z2, z3⟩ := four_cells hW0; go_simp) ?_
            simp only [Act.put, List.setIfInBounds_toArray, List.set_cons_zero, List.set_cons_succ]
            refine wpL_take 17 32 (.bool true) [] rfl rfl (by kernel_rfl) (by decide) (by kernel_rfl) (by kernel_rfl) (by kernel_rfl) (fun _ _ _ h => h) HS2.out (by rfl) (fun W hW => by obtain ⟨hW0, v0, v1, v2, v3⟩ := hW; obtain ⟨z0, z1, z2, z3⟩ := four_cells hW0; go_simp) ?_
            simp only [Act.put, List.setIfInBounds_toArray, List.set_cons_zero, List.set_cons_succ]
            refine wpL_skip 18 33 [20, 21] rfl rfl (by kernel_rfl) (by decide) (by kernel_rfl) (by kernel_rfl) (by kernel_rfl) (fun _ _ _ h => h) HS2.out (by rfl) ?_
            simp only [Act.put, List.setIfInBounds_toArray, List.set_cons_zero, List.set_cons_succ]
            refine wpL_skip 19 34 [20, 21] rfl rfl (by kernel_rfl) (by decide) (by kernel_rfl) (by kernel_rfl) (by kernel_rfl) (fun _ _ _ h => h) HS2.out (by rfl) ?_
            simp only [Act.put, List.setIfInBounds_toArray, List.set_cons_zero, List.set_cons_succ]
            refine wpL_skip 20 35 [21] rfl rfl (by kernel_rfl) (by decide) (by kernel_rfl) (by kernel_rfl) (by kernel_rfl) (fun _ _ _ h => h) HS2.out (by rfl) ?_
            simp only [Act.put, List.setIfInBounds_toArray, List.set_cons_zero, List.set_cons_succ]
            refine wpL_skip 21 36 [] rfl rfl (by kernel_rfl) (by decide) (by kernel_rfl) (by kernel_rfl) (by kernel_rfl) (fun _ _ _ h => h) HS2.out (by rfl) ?_
            simp only [Act.put, List.setIfInBounds_toArray, List.set_cons_zero, List.set_cons_succ]
            refine wpL_one 22 rfl (by kernel_rfl) (by rfl) (fun K hK => ?_)
            go_simp
            refine hK.out _ _ (fun h => absurd rfl h) ?_
            clear hK K
            refine wpL_done (by kernel_rfl) ?_
            refine NoPanic.normal ?_
            go_wp2_with fail
            go_ret2
            exact ⟨.inr ⟨HNO.out, rfl⟩, (HBase.out ▸ HB2.out)⟩
          · have HAB := hid hah
            clear hah
            cases hlb : layB ((X.take k).map ar) (ar s)
            · have HLB := hid hlb
              have HNO : Hid (¬ Lg X) := fun h => gs_bad HXk.out (fun h => by rw [HLB.out] at h; exact absurd h.2.2 (by decide)) h.1
              clear hlb
              have HSp := hid (span_ok (wr.alloc (sO s 71)).drew s (HMX.out s (List.mem_of_getElem? HXk.out)))
              rw [HSB.out] at HSp
              have HT0 : Hid (Tb (wr.alloc (sO s 71)).drew t (X.take k)) := ⟨HTV.out.blk⟩
              have HB0 : Hid (Below t w (wr.alloc (sO s 71)).drew) := HBV.out.drew
              have HGL0 : Hid (g < (wr.alloc (sO s 71)).drew.heap.size) := HGLs.out
              go_upto_region 5 with fail
              have HS0 : Hid (Mem2 wr.heap.size s g (o + j * 4) y (wr.alloc (sO s 71)).drew) := HS00.out
              refine wp_region_noPanic ?_
              refine wp_region_last (Mem2 wr.heap.size s g (o + j * 4) y) 22 (by kernel_rfl) ?_
              refine wpL_take 0 15 (sv s) [1, 3, 16, 17] rfl rfl (by kernel_rfl) (by decide) (by kernel_rfl) (by kernel_rfl) (by kernel_rfl) (fun _ _ _ h => h) HS0.out (by rfl) (fun W hW => by obtain ⟨hW0, v0, v1, v2, v3⟩ := hW; obtain ⟨z0, z1, z2, z3⟩ := four_cells hW0; go_simp) ?_
              simp only [Act.put, List.setIfInBounds_toArray, List.set_cons_zero, List.set_cons_succ]
              refine wpL_one 1 rfl (by kernel_rfl) (by rfl) (fun K hK => ?_)
              go_simp
              refine HSp.out.mono ?_
              rintro e q1 ⟨rfl, hb⟩
              have HS1 : Hid (Mem2 wr.heap.size s g (o + j * 4) y q1) := ⟨blk_below HS0.out.1 hb, by rw [hb.cell (by exact HGL0.out)]; exact HS0.out.2.1, by rw [hb.cell (by exact HGL0.out)]; exact HS0.out.2.2.1, by rw [hb.cell (by exact HGL0.out)]; exact HS0.out.2.2.2.1, by rw [hb.cell (by exact HGL0.out)]; exact HS0.out.2.2.2.2⟩
              have HT1 := hid (HT0.out.below hb)
              have HB1 : Hid (Below t w q1) := HB0.out.trans (hb.mono (Nat.le_of_lt HT0.out.lt))
              have HGL1 : Hid (g < q1.heap.size) := Nat.lt_of_lt_of_le HGL0.out hb.size
              have HAh := hid (ahead_ok q1 y s)
              rw [HAB.out] at HAh
              clear hb
              go_simp
              refine hK.out _ _ (fun _ => HS1.out) ?_
              clear hK K
              refine wpL_take 2 17 (.bool false) [3, 16, 17] rfl rfl (by kernel_rfl) (by decide) (by kernel_rfl) (by kernel_rfl) (by kernel_rfl) (fun _ _ _ h => h) HS1.out (by rfl) (fun W hW => by obtain ⟨hW0, v0, v1, v2, v3⟩ := hW; obtain ⟨z0, z1, z2, z3⟩ := four_cells hW0; go_simp) ?_
              simp only [Act.put, List.setIfInBounds_toArray, List.set_cons_zero, List.set_cons_succ]
              refine wpL_take 3 18 (.bool false) [16, 17] rfl rfl (by kernel_rfl) (by decide) (by kernel_rfl) (by kernel_rfl) (by kernel_rfl) (fun _ _ _ h => h) HS1.out (by rfl) (fun W hW => by obtain ⟨hW0, v0, v1, v2, v3⟩ := hW; obtain ⟨z0, z1, z2, z3⟩ := four_cells hW0; go_simp) ?_
              simp only [Act.put, List.setIfInBounds_toArray, List.set_cons_zero, List.set_cons_succ]
              refine wpL_take 4 19 (i64 k) [5, 6, 13, 17] rfl rfl (by kernel_rfl) (by decide) (by kernel_rfl) (by kernel_rfl) (by kernel_rfl) (fun _ _ _ h => h) HS1.out (by rfl) (fun W hW => by obtain ⟨hW0, v0, v1, v2, v3⟩ := hW; obtain ⟨z0, z1, z2, z3⟩ := four_cells hW0; go_simp) ?_
              simp only [Act.put, List.setIfInBounds_toArray, List.set_cons_zero, List.set_cons_succ]
              refine wpL_take 5 20 (.bool true) [6, 13, 17] rfl rfl (by kernel_rfl) (by decide) (by kernel_rfl) (by kernel_rfl) (by kernel_rfl) (fun _ _ _ h => h) HS1.out (by rfl) (fun W hW => by obtain ⟨hW0, v0, v1, v2, v3⟩ := hW; obtain ⟨z0, z1, z2, z3⟩ := four_cells hW0; go_simp; exact HKP.out) ?_
              simp only [Act.put, List.setIfInBounds_toArray, List.set_cons_zero, List.set_cons_succ]
              refine wpL_take 6 21 (.bool true) [13, 17] rfl rfl (by kernel_rfl) (by decide) (by kernel_rfl) (by kernel_rfl) (by kernel_rfl) (fun _ _ _ h => h) HS1.out (by rfl) (fun W hW => by obtain ⟨hW0, v0, v1, v2, v3⟩ := hW; obtain ⟨z0, z1, z2, z3⟩ := four_cells hW0; go_simp) ?_
              simp only [Act.put, List.setIfInBounds_toArray, List.set_cons_zero, List.set_cons_succ]
              refine wpL_take 7 22 (.slice (some ⟨g, o, none⟩) N cap) [10, 11, 13, 17] rfl rfl (by kernel_rfl) (by decide) (by kernel_rfl) (by kernel_rfl) (by kernel_rfl) (fun _ _ _ h => h) HS1.out (by rfl) (fun W hW => by obtain ⟨hW0, v0, v1, v2, v3⟩ := hW; obtain ⟨z0, z1, z2, z3⟩ := four_cells hW0; go_simp) ?_
              simp only [Act.put, List.setIfInBounds_toArray, List.set_cons_zero, List.set_cons_succ]
              refine wpL_take 8 23 (i64 k) [9, 10, 11, 13, 17] rfl rfl (by kernel_rfl) (by decide) (by kernel_rfl) (by kernel_rfl) (by kernel_rfl) (fun _ _ _ h => h) HS1.out (by rfl) (fun W hW => by obtain ⟨hW0, v0, v1, v2, v3⟩ := hW; obtain ⟨z0, z1, z2, z3⟩ := four_cells hW0; go_simp) ?_
              simp only [Act.put, List.setIfInBounds_toArray, List.set_cons_zero, List.set_cons_succ]
              refine wpL_take 9 24 (i64 j) [10, 11, 13, 17] rfl rfl (by kernel_rfl) (by decide) (by kernel_rfl) (by kernel_rfl) (by kernel_rfl) (fun _ _ _ h => h) HS1.out (by rfl) (fun W hW => by obtain ⟨hW0, v0, v1, v2, v3⟩ := hW; obtain ⟨z0, z1, z2, z3⟩ := four_cells hW0; go_simp) ?_
              simp only [Act.put, List.setIfInBounds_toArray, List.set_cons_zero, List.set_cons_succ]
              refine wpL_take 10 25 (.pointer (some ⟨g, o + j * 4, none⟩)) [11, 13, 17] rfl rfl (by kernel_rfl) (by decide) (by kernel_rfl) (by kernel_rfl) (by kernel_rfl) (fun _ _ _ h => h) HS1.out (by rfl) (fun W hW => by obtain ⟨hW0, v0, v1, v2, v3⟩ := hW; obtain ⟨z0, z1, z2, z3⟩ := four_cells hW0; go_simp) ?_
              simp only [Act.put, List.setIfInBounds_toArray, List.set_cons_zero, List.set_cons_succ]
              refine wpL_take 11 26 (sv y) [13, 17] rfl rfl (by kernel_rfl) (by decide) (by kernel_rfl) (by kernel_rfl) (by kernel_rfl) (fun _ _ _ h => h) HS1.out (by rfl) (fun W hW => by obtain ⟨hW0, v0, v1, v2, v3⟩ := hW; obtain ⟨z0, z1, z2, z3⟩ := four_cells hW0; go_simp) ?_
              simp only [Act.put, List.setIfInBounds_toArray, List.set_cons_zero, List.set_cons_succ]
              refine wpL_take 12 27 (sv s) [13, 17] rfl rfl (by kernel_rfl) (by decide) (by kernel_rfl) (by kernel_rfl) (by kernel_rfl) (fun _ _ _ h => h) HS1.out (by rfl) (fun W hW => by obtain ⟨hW0, v0, v1, v2, v3⟩ := hW; obtain ⟨z0, z1, z2, z3⟩ := four_cells hW0; go_simp) ?_
              simp only [Act.put, List.setIfInBounds_toArray, List.set_cons_zero, List.set_cons_succ]
              refine wpL_one 13 rfl (by kernel_rfl) (by rfl) (fun K hK => ?_)
              go_simp
              refine HAh.out.mono ?_
              rintro e q2 ⟨rfl, hb⟩
              have HS2 : Hid (Mem2 wr.heap.size s g (o + j * 4) y q2) := ⟨blk_below HS1.out.1 hb, by rw [hb.cell (by exact HGL1.out)]; exact HS1.out.2.1, by rw [hb.cell (by exact HGL1.out)]; exact HS1.out.2.2.1, by rw [hb.cell (by exact HGL1.out)]; exact HS1.out.2.2.2.1, by rw [hb.cell (by exact HGL1.out)]; exact HS1.out.2.2.2.2⟩
              have HT2 := hid (HT1.out.below hb)
              have HB2 : Hid (Below t w q2) := HB1.out.trans (hb.mono (Nat.le_of_lt HT1.out.lt))
              have HGL2 : Hid (g < q2.heap.size) := Nat.lt_of_lt_of_le HGL1.out hb.size
              have HLy := hid (slay2 q2 t (X.take k) s HT2.out HGS.out HIA.out)
              rw [HLB.out] at HLy
              clear hb
              go_simp
              refine hK.out _ _ (fun _ => HS2.out) ?_
              clear hK K
              refine wpL_take 14 29 (.bool false) [15, 16, 17] rfl rfl (by kernel_rfl) (by decide) (by kernel_rfl) (by kernel_rfl) (by kernel_rfl) (fun _ _ _ h => h) HS2.out (by rfl) (fun W hW => by obtain ⟨hW0, v0, v1, v2, v3⟩ := hW; obtain ⟨z0, z1, z2, z3⟩ := four_cells hW0; go_simp) ?_
              simp only [Act.put, List.setIfInBounds_toArray, List.set_cons_zero, List.set_cons_succ]
              refine wpL_take 15 30 (.bool false) [16, 17] rfl rfl (by kernel_rfl) (by decide) (by kernel_rfl) (by kernel_rfl) (by kernel_rfl) (fun _ _ _ h => h) HS2.out (by rfl) (fun W hW => by obtain ⟨hW0, v0, v1, v2, v3⟩ := hW; obtain ⟨z0, z1, z2, z3⟩ := four_cells hW0; go_simp) ?_
              simp only [Act.put, List.setIfInBounds_toArray, List.set_cons_zero, List.set_cons_succ]
              refine wpL_take 16 31 (.bool false) [17] rfl rfl (by kernel_rfl) (by decide) (by kernel_rfl) (by kernel_rfl) (by kernel_rfl) (fun _ _ _ h => h) HS2.out (by rfl) (fun W hW => by obtain ⟨hW0, v0, v1, v2, v3⟩ := hW; obtain ⟨z0, z1, z2, z3⟩ := four_cells hW0; go_simp) ?_
              simp only [Act.put, List.setIfInBounds_toArray, List.set_cons_zero, List.set_cons_succ]
              refine wpL_take 17 32 (.bool false) [] rfl rfl (by kernel_rfl) (by decide) (by kernel_rfl) (by kernel_rfl) (by kernel_rfl) (fun _ _ _ h => h) HS2.out (by rfl) (fun W hW => by obtain ⟨hW0, v0, v1, v2, v3⟩ := hW; obtain ⟨z0, z1, z2, z3⟩ := four_cells hW0; go_simp) ?_
              simp only [Act.put, List.setIfInBounds_toArray, List.set_cons_zero, List.set_cons_succ]
              refine wpL_take 18 33 (pq t) [20, 21] rfl rfl (by kernel_rfl) (by decide) (by kernel_rfl) (by kernel_rfl) (by kernel_rfl) (fun _ _ _ h => h) HS2.out (by rfl) (fun W hW => by obtain ⟨hW0, v0, v1, v2, v3⟩ := hW; obtain ⟨z0, z1, z2, z3⟩ := four_cells hW0; go_simp) ?_
              simp only [Act.put, List.setIfInBounds_toArray, List.set_cons_zero, List.set_cons_succ]
              refine wpL_take 19 34 (sv s) [20, 21] rfl rfl (by kernel_rfl) (by decide) (by kernel_rfl) (by kernel_rfl) (by kernel_rfl) (fun _ _ _ h => h) HS2.out (by rfl) (fun W hW => by obtain ⟨hW0, v0, v1, v2, v3⟩ := hW; obtain ⟨z0, z1, z2, z3⟩ := four_cells hW0; go_simp) ?_
              simp only [Act.put, List.setIfInBounds_toArray, List.set_cons_zero, List.set_cons_succ]
              refine wpL_one 20 rfl (by kernel_rfl) (by rfl) (fun K hK => ?_)
              go_simp
              refine HLy.out.mono ?_
              rintro e q3 ⟨rfl, hT, ho⟩
              have HT3 : Hid (Tb q3 t (X.take k)) := hT
              have HS3 : Hid (Mem2 wr.heap.size s g (o + j * 4) y q3) := ⟨(ho.block _ (blk_lt HS2.out.1) (by have := HXT.out; omega)).trans HS2.out.1, by rw [ho.cell (by exact HGL2.out) (by exact HGT.out)]; exact HS2.out.2.1, by rw [ho.cell (by exact HGL2.out) (by exact HGT.out)]; exact HS2.out.2.2.1, by rw [ho.cell (by exact HGL2.out) (by exact HGT.out)]; exact HS2.out.2.2.2.1, by rw [ho.cell (by exact HGL2.out) (by exact HGT.out)]; exact HS2.out.2.2.2.2⟩
              have HB3 : Hid (Below t w q3) := HB2.out.trans (ho.below (Nat.le_refl _) (Nat.le_of_lt HT2.out.lt))
              clear hT ho
              go_simp
              refine hK.out _ _ (fun _ => HS3.out) ?_
              clear hK K
              refine wpL_take 21 36 (.bool true) [] rfl rfl (by kernel_rfl) (by decide) (by kernel_rfl) (by kernel_rfl) (by kernel_rfl) (fun _ _ _ h => h) HS3.out (by rfl) (fun W hW => by obtain ⟨hW0, v0, v1, v2, v3⟩ := hW; obtain ⟨z0, z1, z2, z3⟩ := four_cells hW0; go_simp) ?_
              simp only [Act.put, List.setIfInBounds_toArray, List.set_cons_zero, List.set_cons_succ]
              refine wpL_one 22 rfl (by kernel_rfl) (by rfl) (fun K hK => ?_)
              go_simp
              refine hK.out _ _ (fun h => absurd rfl h) ?_
              clear hK K
              refine wpL_done (by kernel_rfl) ?_
              refine NoPanic.normal ?_
              go_wp2_with fail
              go_ret2
              exact ⟨.inr ⟨HNO.out, rfl⟩, (HBase.out ▸ HB3.out)⟩
            · have HLB := hid hlb
              have HGN : Hid (GS (X.take (k + 1))) := gs_next HGS.out HXk.out HIA.out hlb HPR.out
              have HSN : Hid ((X.take (k + 1)).Pairwise ahP) := srt_next HSr.out HXk.out (.inr ⟨j, y, HKJ.out, HYj.out, ahB_iff.1 HAB.out⟩)
              clear hlb
              have HSp := hid (span_ok (wr.alloc (sO s 71)).drew s (HMX.out s (List.mem_of_getElem? HXk.out)))
              rw [HSB.out] at HSp
              have HT0 : Hid (Tb (wr.alloc (sO s 71)).drew t (X.take k)) := ⟨HTV.out.blk⟩
              have HB0 : Hid (Below t w (wr.alloc (sO s 71)).drew) := HBV.out.drew
              have HGL0 : Hid (g < (wr.alloc (sO s 71)).drew.heap.size) := HGLs.out
              go_upto_region 5 with fail
              have HS0 : Hid (Mem2 wr.heap.size s g (o + j * 4) y (wr.alloc (sO s 71)).drew) := HS00.out
              refine wp_region_noPanic ?_
              refine wp_region_last (Mem2 wr.heap.size s g (o + j * 4) y) 22 (by kernel_rfl) ?_
              refine wpL_take 0 15 (sv s) [1, 3, 16, 17] rfl rfl (by kernel_rfl) (by decide) (by kernel_rfl) (by kernel_rfl) (by kernel_rfl) (fun _ _ _ h => h) HS0.out (by rfl) (fun W hW => by obtain ⟨hW0, v0, v1, v2, v3⟩ := hW; obtain ⟨z0, z1, z2, z3⟩ := four_cells hW0; go_simp) ?_
              simp only [Act.put, List.setIfInBounds_toArray, List.set_cons_zero, List.set_cons_succ]
              refine wpL_one 1 rfl (by kernel_rfl) (by rfl) (fun K hK => ?_)
              go_simp
              refine HSp.out.mono ?_
              rintro e q1 ⟨rfl, hb⟩
              have HS1 : Hid (Mem2 wr.heap.size s g (o + j * 4) y q1) := ⟨blk_below HS0.out.1 hb, by rw [hb.cell (by exact HGL0.out)]; exact HS0.out.2.1, by rw [hb.cell (by exact HGL0.out)]; exact HS0.out.2.2.1, by rw [hb.cell (by exact HGL0.out)]; exact HS0.out.2.2.2.1, by rw [hb.cell (by exact HGL0.out)]; exact HS0.out.2.2.2.2⟩
              have HT1 := hid (HT0.out.below hb)
              have HB1 : Hid (Below t w q1) := HB0.out.trans (hb.mono (Nat.le_of_lt HT0.out.lt))
              have HGL1 : Hid (g < q1.heap.size) := Nat.lt_of_lt_of_le HGL0.out hb.size
              have HAh := hid (ahead_ok q1 y s)
              rw [HAB.out] at HAh
              clear hb
              go_simp
              refine hK.out _ _ (fun _ => HS1.out) ?_
              clear hK K
              refine wpL_take 2 17 (.bool false) [3, 16, 17] rfl rfl (by kernel_rfl) (by decide) (by kernel_rfl) (by kernel_rfl) (by kernel_rfl) (fun _ _ _ h => h) HS1.out (by rfl) (fun W hW => by obtain ⟨hW0, v0, v1, v2, v3⟩ := hW; obtain ⟨z0, z1, z2, z3⟩ := four_cells hW0; go_simp) ?_
              simp only [Act.put, List.setIfInBounds_toArray, List.set_cons_zero, List.set_cons_succ]
              refine wpL_take 3 18 (.bool false) [16, 17] rfl rfl (by kernel_rfl) (by decide) (by kernel_rfl) (by kernel_rfl) (by kernel_rfl) (fun _ _ _ h => h) HS1.out (by rfl) (fun W hW => by obtain ⟨hW0, v0, v1, v2, v3⟩ := hW; obtain ⟨z0, z1, z2, z3⟩ := four_cells hW0; go_simp) ?_
              simp only [Act.put, List.setIfInBounds_toArray, List.set_cons_zero, List.set_cons_succ]
              refine wpL_take 4 19 (i64 k) [5, 6, 13, 17] rfl rfl (by kernel_rfl) (by decide) (by kernel_rfl) (by kernel_rfl) (by kernel_rfl) (fun _ _ _ h => h) HS1.out (by rfl) (fun W hW => by obtain ⟨hW0, v0, v1, v2, v3⟩ := hW; obtain ⟨z0, z1, z2, z3⟩ := four_cells hW0; go_simp) ?_
              simp only [Act.put, List.setIfInBounds_toArray, List.set_cons_zero, List.set_cons_succ]
              refine wpL_take 5 20 (.bool true) [6, 13, 17] rfl rfl (by kernel_rfl) (by decide) (by kernel_rfl) (by kernel_rfl) (by kernel_rfl) (fun _ _ _ h => h) HS1.out (by rfl) (fun W hW => by obtain ⟨hW0, v0, v1, v2, v3⟩ := hW; obtain ⟨z0, z1, z2, z3⟩ := four_cells hW0; go_simp; exact HKP.out) ?_
              simp only [Act.put, List.setIfInBounds_toArray, List.set_cons_zero, List.set_cons_succ]
              refine wpL_take 6 21 (.bool true) [13, 17] rfl rfl (by kernel_rfl) (by decide) (by kernel_rfl) (by kernel_rfl) (by kernel_rfl) (fun _ _ _ h => h) HS1.out (by rfl) (fun W hW => by obtain ⟨hW0, v0, v1, v2, v3⟩ := hW; obtain ⟨z0, z1, z2, z3⟩ := four_cells hW0; go_simp) ?_
              simp only [Act.put, List.setIfInBounds_toArray, List.set_cons_zero, List.set_cons_succ]
              refine wpL_take 7 22 (.slice (some ⟨g, o, none⟩) N cap) [10, 11, 13, 17] rfl rfl (by kernel_rfl) (by decide) (by kernel_rfl) (by kernel_rfl) (by kernel_rfl) (fun _ _ _ h => h) HS1.out (by rfl) (fun W hW => by obtain ⟨hW0, v0, v1, v2, v3⟩ := hW; obtain ⟨z0, z1, z2, z3⟩ := four_cells hW0; go_simp) ?_
              simp only [Act.put, List.setIfInBounds_toArray, List.set_cons_zero, List.set_cons_succ]
              refine wpL_take 8 23 (i64 k) [9, 10, 11, 13, 17] rfl rfl (by kernel_rfl) (by decide) (by kernel_rfl) (by kernel_rfl) (by kernel_rfl) (fun _ _ _ h => h) HS1.out (by rfl) (fun W hW => by obtain ⟨hW0, v0, v1, v2, v3⟩ := hW; obtain ⟨z0, z1, z2, z3⟩ := four_cells hW0; go_simp) ?_
              simp only [Act.put, List.setIfInBounds_toArray, List.set_cons_zero, List.set_cons_succ]
              refine wpL_take 9 24 (i64 j) [10, 11, 13, 17] rfl rfl (by kernel_rfl) (by decide) (by kernel_rfl) (by kernel_rfl) (by kernel_rfl) (fun _ _ _ h => h) HS1.out (by rfl) (fun W hW => by obtain ⟨hW0, v0, v1, v2, v3⟩ := hW; obtain ⟨z0, z1, z2, z3⟩ := four_cells hW0; go_simp) ?_
              simp only [Act.put, List.setIfInBounds_toArray, List.set_cons_zero, List.set_cons_succ]
              refine wpL_take 10 25 (.pointer (some ⟨g, o + j * 4, none⟩)) [11, 13, 17] rfl rfl (by kernel_rfl) (by decide) (by kernel_rfl) (by kernel_rfl) (by kernel_rfl) (fun _ _ _ h => h) HS1.out (by rfl) (fun W hW => by obtain ⟨hW0, v0, v1, v2, v3⟩ := hW; obtain ⟨z0, z1, z2, z3⟩ := four_cells hW0; go_simp) ?_
              simp only [Act.put, List.setIfInBounds_toArray, List.set_cons_zero, List.set_cons_succ]
              refine wpL_take 11 26 (sv y) [13, 17] rfl rfl (by kernel_rfl) (by decide) (by kernel_rfl) (by kernel_rfl) (by kernel_rfl) (fun _ _ _ h => h) HS1.out (by rfl) (fun W hW => by obtain ⟨hW0, v0, v1, v2, v3⟩ := hW; obtain ⟨z0, z1, z2, z3⟩ := four_cells hW0; go_simp) ?_
              simp only [Act.put, List.setIfInBounds_toArray, List.set_cons_zero, List.set_cons_succ]
              refine wpL_take 12 27 (sv s) [13, 17] rfl rfl (by kernel_rfl) (by decide) (by kernel_rfl) (by kernel_rfl) (by kernel_rfl) (fun _ _ _ h => h) HS1.out (by rfl) (fun W hW => by obtain ⟨hW0, v0, v1, v2, v3⟩ := hW; obtain ⟨z0, z1, z2, z3⟩ := four_cells hW0; go_simp) ?_
              simp only [Act.put, List.setIfInBounds_toArray, List.set_cons_zero, List.set_cons_succ]
              refine wpL_one 13 rfl (by kernel_rfl) (by rfl) (fun K hK => ?_)
              go_simp
              refine HAh.out.mono ?_
              rintro e q2 ⟨rfl, hb⟩
              have HS2 : Hid (Mem2 wr.heap.size s g (o + j * 4) y q2) := ⟨blk_below HS1.out.1 hb, by rw [hb.cell (by exact HGL1.out)]; exact HS1.out.2.1, by rw [hb.cell (by exact HGL1.out)]; exact HS1.out.2.2.1, by rw [hb.cell (by exact HGL1.out)]; exact HS1.out.2.2.2.1, by rw [hb.cell (by exact HGL1.out)]; exact HS1.out.2.2.2.2⟩
              have HT2 := hid (HT1.out.below hb)
              have HB2 : Hid (Below t w q2) := HB1.out.trans (hb.mono (Nat.le_of_lt HT1.out.lt))
              have HGL2 : Hid (g < q2.heap.size) := Nat.lt_of_lt_of_le HGL1.out hb.size
              have HLy := hid (slay2 q2 t (X.take k) s HT2.out HGS.out HIA.out)
              rw [HLB.out] at HLy
              clear hb
              go_simp
              refine hK.out _ _ (fun _ => HS2.out) ?_
              clear hK K
              refine wpL_take 14 29 (.bool false) [15, 16, 17] rfl rfl (by kernel_rfl) (by decide) (by kernel_rfl) (by kernel_rfl) (by kernel_rfl) (fun _ _ _ h => h) HS2.out (by rfl) (fun W hW => by obtain ⟨hW0, v0, v1, v2, v3⟩ := hW; obtain ⟨z0, z1, z2, z3⟩ := four_cells hW0; go_simp) ?_
              simp only [Act.put, List.setIfInBounds_toArray, List.set_cons_zero, List.set_cons_succ]
              refine wpL_take 15 30 (.bool false) [16, 17] rfl rfl (by kernel_rfl) (by decide) (by kernel_rfl) (by kernel_rfl) (by kernel_rfl) (fun _ _ _ h => h) HS2.out (by rfl) (fun W hW => by obtain ⟨hW0, v0, v1, v2, v3⟩ := hW; obtain ⟨z0, z1, z2, z3⟩ := four_cells hW0; go_simp) ?_
              simp only [Act.put, List.setIfInBounds_toArray, List.set_cons_zero, List.set_cons_succ]
              refine wpL_take 16 31 (.bool false) [17] rfl rfl (by kernel_rfl) (by decide) (by kernel_rfl) (by kernel_rfl) (by kernel_rfl) (fun _ _ _ h => h) HS2.out (by rfl) (fun W hW => by obtain ⟨hW0, v0, v1, v2, v3⟩ := hW; obtain ⟨z0, z1, z2, z3⟩ := four_cells hW0; go_simp) ?_
              simp only [Act.put, List.setIfInBounds_toArray, List.set_cons_zero, List.set_cons_succ]
              refine wpL_take 17 32 (.bool false) [] rfl rfl (by kernel_rfl) (by decide) (by kernel_rfl) (by kernel_rfl) (by kernel_rfl) (fun _ _ _ h => h) HS2.out (by rfl) (fun W hW => by obtain ⟨hW0, v0, v1, v2, v3⟩ := hW; obtain ⟨z0, z1, z2, z3⟩ := four_cells hW0; go_simp) ?_
              simp only [Act.put, List.setIfInBounds_toArray, List.set_cons_zero, List.set_cons_succ]
              refine wpL_take 18 33 (pq t) [20, 21] rfl rfl (by kernel_rfl) (by decide) (by kernel_rfl) (by kernel_rfl) (by kernel_rfl) (fun _ _ _ h => h) HS2.out (by rfl) (fun W hW => by obtain ⟨hW0, v0, v1, v2, v3⟩ := hW; obtain ⟨z0, z1, z2, z3⟩ := four_cells hW0; go_simp) ?_
              simp only [Act.put, List.setIfInBounds_toArray, List.set_cons_zero, List.set_cons_succ]
              refine wpL_take 19 34 (sv s) [20, 21] rfl rfl (by kernel_rfl) (by decide) (by kernel_rfl) (by kernel_rfl) (by kernel_rfl) (fun _ _ _ h => h) HS2.out (by rfl) (fun W hW => by obtain ⟨hW0, v0, v1, v2, v3⟩ := hW; obtain ⟨z0, z1, z2, z3⟩ := four_cells hW0; go_simp) ?_
              simp only [Act.put, List.setIfInBounds_toArray, List.set_cons_zero, List.set_cons_succ]
              refine wpL_one 20 rfl (by kernel_rfl) (by rfl) (fun K hK => ?_)
              go_simp
              refine HLy.out.mono ?_
              rintro e q3 ⟨rfl, hT, ho⟩
              have HT3 : Hid (Tb q3 t (X.take k ++ [s])) := hT
              have HS3 : Hid (Mem2 wr.heap.size s g (o + j * 4) y q3) := ⟨(ho.block _ (blk_lt HS2.out.1) (by have := HXT.out; omega)).trans HS2.out.1, by rw [ho.cell (by exact HGL2.out) (by exact HGT.out)]; exact HS2.out.2.1, by rw [ho.cell (by exact HGL2.out) (by exact HGT.out)]; exact HS2.out.2.2.1, by rw [ho.cell (by exact HGL2.out) (by exact HGT.out)]; exact HS2.out.2.2.2.1, by rw [ho.cell (by exact HGL2.out) (by exact HGT.out)]; exact HS2.out.2.2.2.2⟩
              have HB3 : Hid (Below t w q3) := HB2.out.trans (ho.below (Nat.le_refl _) (Nat.le_of_lt HT2.out.lt))
              clear hT ho
              go_simp
              refine hK.out _ _ (fun _ => HS3.out) ?_
              clear hK K
              refine wpL_take 21 36 (.bool false) [] rfl rfl (by kernel_rfl) (by decide) (by kernel_rfl) (by kernel_rfl) (by kernel_rfl) (fun _ _ _ h => h) HS3.out (by rfl) (fun W hW => by obtain ⟨hW0, v0, v1, v2, v3⟩ := hW; obtain ⟨z0, z1, z2, z3⟩ := four_cells hW0; go_simp) ?_
              simp only [Act.put, List.setIfInBounds_toArray, List.set_cons_zero, List.set_cons_succ]
              refine wpL_one 22 rfl (by kernel_rfl) (by rfl) (fun K hK => ?_)
              go_simp
              refine hK.out _ _ (fun h => absurd rfl h) ?_
              clear hK K
              refine wpL_done (by kernel_rfl) ?_
              refine NoPanic.normal ?_
              go_wp2_with fail
              have HTn : Hid (Tb q3 t (X.take (k + 1))) := by rw [takeS_last HXk.out]; exact HT3.out
              exact ⟨⟨k + 1, by omega, by go_num, HTn, HGN, HSN, HB3⟩, by simp [intOf]; omega⟩
      · have HSB : Hid (spB s = false) := Bool.eq_false_iff.2 hsp
        have HS00 : Hid (Mem wr.heap.size s (wr.alloc (sO s 71))) := HX0.out
        have HNO : Hid (¬ Lg X) := fun h => gs_bad HXk.out (fun h => hsp (spB_iff.2 ⟨h.1, h.2.1⟩)) h.1
        clear hsp
        have HSp := hid (span_ok (wr.alloc (sO s 71)).drew s (HMX.out s (List.mem_of_getElem? HXk.out)))
        rw [HSB.out] at HSp
        have HT0 : Hid (Tb (wr.alloc (sO s 71)).drew t (X.take k)) := ⟨HTV.out.blk⟩
        have HB0 : Hid (Below t w (wr.alloc (sO s 71)).drew) := HBV.out.drew
        go_upto_region 5 with fail
        have HS0 : Hid (Mem wr.heap.size s (wr.alloc (sO s 71)).drew) := HS00.out
        refine wp_region_noPanic ?_
        refine wp_region_last (Mem wr.heap.size s) 22 (by kernel_rfl) ?_
        refine wpL_take 0 15 (sv s) [1, 3, 16, 17] rfl rfl (by kernel_rfl) (by decide) (by kernel_rfl) (by kernel_rfl) (by kernel_rfl) (fun _ _ _ h => h) HS0.out (by rfl) (fun W hW => by have hW0 : W.heap[wr.heap.size]? = some (sO s 71) := hW; obtain ⟨z0, z1, z2, z3⟩ := four_cells hW0; go_simp) ?_
        simp only [Act.put, List.setIfInBounds_toArray, List.set_cons_zero, List.set_cons_succ]
        refine wpL_one 1 rfl (by kernel_rfl) (by rfl) (fun K hK => ?_)
        go_simp
        refine HSp.out.mono ?_
        rintro e q1 ⟨rfl, hb⟩
        have HS1 : Hid (Mem wr.heap.size s q1) := blk_below HS0.out hb
        have HT1 := hid (HT0.out.below hb)
        have HB1 : Hid (Below t w q1) := HB0.out.trans (hb.mono (Nat.le_of_lt HT0.out.lt))
        clear hb
        go_simp
        refine hK.out _ _ (fun _ => HS1.out) ?_
        clear hK K
        refine wpL_take 2 17 (.bool true) [3, 16, 17] rfl rfl (by kernel_rfl) (by decide) (by kernel_rfl) (by kernel_rfl) (by kernel_rfl) (fun _ _ _ h => h) HS1.out (by rfl) (fun W hW => by have hW0 : W.heap[wr.heap.size]? = some (sO s 71) := hW; obtain ⟨z0, z1, z2, z3⟩ := four_cells hW0; go_simp) ?_
        simp only [Act.put, List.setIfInBounds_toArray, List.set_cons_zero, List.set_cons_succ]
        refine wpL_take 3 18 (.bool true) [16, 17] rfl rfl (by kernel_rfl) (by decide) (by kernel_rfl) (by kernel_rfl) (by kernel_rfl) (fun _ _ _ h => h) HS1.out (by rfl) (fun W hW => by have hW0 : W.heap[wr.heap.size]? = some (sO s 71) := hW; obtain ⟨z0, z1, z2, z3⟩ := four_cells hW0; go_simp) ?_
        simp only [Act.put, List.setIfInBounds_toArray, List.set_cons_zero, List.set_cons_succ]
        refine wpL_skip 4 19 [5, 6, 13, 17] rfl rfl (by kernel_rfl) (by decide) (by kernel_rfl) (by kernel_rfl) (by kernel_rfl) (fun _ _ _ h => h) HS1.out (by rfl) ?_
        simp only [Act.put, List.setIfInBounds_toArray, List.set_cons_zero, List.set_cons_succ]
        refine wpL_skip 5 20 [6, 13, 17] rfl rfl (by kernel_rfl) (by decide) (by kernel_rfl) (by kernel_rfl) (by kernel_rfl) (fun _ _ _ h => h) HS1.out (by rfl) ?_
        simp only [Act.put, List.setIfInBounds_toArray, List.set_cons_zero, List.set_cons_succ]
        refine wpL_skip 6 21 [13, 17] rfl rfl (by kernel_rfl) (by decide) (by kernel_rfl) (by kernel_rfl) (by kernel_rfl) (fun _ _ _ h => h) HS1.out (by rfl) ?_
        simp only [Act.put, List.setIfInBounds_toArray, List.set_cons_zero, List.set_cons_succ]
        refine wpL_skip 7 22 [10, 11, 13, 17] rfl rfl (by kernel_rfl) (by decide) (by kernel_rfl) (by kernel_rfl) (by kernel_rfl) (fun _ _ _ h => h) HS1.out (by rfl) ?_
        simp only [Act.put, List.setIfInBounds_toArray, List.set_cons_zero, List.set_cons_succ]
        refine wpL_skip 8 23 [9, 10, 11, 13, 17] rfl rfl (by kernel_rfl) (by decide) (by kernel_rfl) (by kernel_rfl) (by kernel_rfl) (fun _ _ _ h => h) HS1.out (by rfl) ?_
        simp only [Act.put, List.setIfInBounds_toArray, List.set_cons_zero, List.set_cons_succ]
        refine wpL_skip 9 24 [10, 11, 13, 17] rfl rfl (by kernel_rfl) (by decide) (by kernel_rfl) (by kernel_rfl) (by kernel_rfl) (fun _ _ _ h => h) HS1.out (by rfl) ?_
        simp only [Act.put, List.setIfInBounds_toArray, List.set_cons_zero, List.set_cons_succ]
        refine wpL_skip 10 25 [11, 13, 17] rfl rfl (by kernel_rfl) (by decide) (by kernel_rfl) (by kernel_rfl) (by kernel_rfl) (fun _ _ _ h => h) HS1.out (by rfl) ?_
        simp only [Act.put, List.setIfInBounds_toArray, List.set_cons_zero, List.set_cons_succ]
        refine wpL_skip 11 26 [13, 17] rfl rfl (by kernel_rfl) (by decide) (by kernel_rfl) (by kernel_rfl) (by kernel_rfl) (fun _ _ _ h => h) HS1.out (by rfl) ?_
        simp only [Act.put, List.setIfInBounds_toArray, List.set_cons_zero, List.set_cons_succ]
        refine wpL_skip 12 27 [13, 17] rfl rfl (by kernel_rfl) (by decide) (by kernel_rfl) (by kernel_rfl) (by kernel_rfl) (fun _ _ _ h => h) HS1.out (by rfl) ?_
        simp only [Act.put, List.setIfInBounds_toArray, List.set_cons_zero, List.set_cons_succ]
        refine wpL_skip 13 28 [17] rfl rfl (by kernel_rfl) (by decide) (by kernel_rfl) (by kernel_rfl) (by kernel_rfl) (fun _ _ _ h => h) HS1.out (by rfl) ?_
        simp only [Act.put, List.setIfInBounds_toArray, List.set_cons_zero, List.set_cons_succ]
        refine wpL_skip 14 29 [15, 16, 17] rfl rfl (by kernel_rfl) (by decide) (by kernel_rfl) (by kernel_rfl) (by kernel_rfl) (fun _ _ _ h => h) HS1.out (by rfl) ?_
        simp only [Act.put, List.setIfInBounds_toArray, List.set_cons_zero, List.set_cons_succ]
        refine wpL_skip 15 30 [16, 17] rfl rfl (by kernel_rfl) (by decide) (by kernel_rfl) (by kernel_rfl) (by kernel_rfl) (fun _ _ _ h => h) HS1.out (by rfl) ?_
        simp only [Act.put, List.setIfInBounds_toArray, List.set_cons_zero, List.set_cons_succ]
        refine wpL_take 16 31 (.bool true) [17] rfl rfl (by kernel_rfl) (by decide) (by kernel_rfl) (by kernel_rfl) (by kernel_rfl) (fun _ _ _ h => h) HS1.out (by rfl) (fun W hW => by have hW0 : W.heap[wr.heap.size]? = some (sO s 71) := hW; obtain ⟨z0, z1, z2, z3⟩ := four_cells hW0; go_simp) ?_
        simp only [Act.put, List.setIfInBounds_toArray, List.set_cons_zero, List.set_cons_succ]
        refine wpL_take 17 32 (.bool true) [] rfl rfl (by kernel_rfl) (by decide) (by kernel_rfl) (by kernel_rfl) (by kernel_rfl) (fun _ _ _ h => h) HS1.out (by rfl) (fun W hW => by have hW0 : W.heap[wr.heap.size]? = some (sO s 71) := hW; obtain ⟨z0, z1, z2, z3⟩ := four_cells hW0; go_simp) ?_
        simp only [Act.put, List.setIfInBounds_toArray, List.set_cons_zero, List.set_cons_succ]
        refine wpL_skip 18 33 [20, 21] rfl rfl (by kernel_rfl) (by decide) (by kernel_rfl) (by kernel_rfl) (by kernel_rfl) (fun _ _ _ h => h) HS1.out (by rfl) ?_
        simp only [Act.put, List.setIfInBounds_toArray, List.set_cons_zero, List.set_cons_succ]
        refine wpL_skip 19 34 [20, 21] rfl rfl (by kernel_rfl) (by decide) (by kernel_rfl) (by kernel_rfl) (by kernel_rfl) (fun _ _ _ h => h) HS1.out (by rfl) ?_
        simp only [Act.put, List.setIfInBounds_toArray, List.set_cons_zero, List.set_cons_succ]
        refine wpL_skip 20 35 [21] rfl rfl (by kernel_rfl) (by decide) (by kernel_rfl) (by kernel_rfl) (by kernel_rfl) (fun _ _ _ h => h) HS1.out (by rfl) ?_
        simp only [Act.put, List.setIfInBounds_toArray, List.set_cons_zero, List.set_cons_succ]
        refine wpL_skip 21 36 [] rfl rfl (by kernel_rfl) (by decide) (by kernel_rfl) (by kernel_rfl) (by kernel_rfl) (fun _ _ _ h => h) HS1.out (by rfl) ?_
        simp only [Act.put, List.setIfInBounds_toArray, List.set_cons_zero, List.set_cons_succ]
        refine wpL_one 22 rfl (by kernel_rfl) (by rfl) (fun K hK => ?_)
        go_simp
        refine hK.out _ _ (fun h => absurd rfl h) ?_
        clear hK K
        refine wpL_done (by kernel_rfl) ?_
        refine NoPanic.normal ?_
        go_wp2_with fail
        go_ret2
        exact ⟨.inr ⟨HNO.out, rfl⟩, (HBase.out ▸ HB1.out)⟩
    · have hE : X.take k = X := List.take_of_length_le (by rw [← HN.out]; omega)
      rw [hE] at HT HGS HSr
      clear hE
      go_wp2_with fail
      go_ret2
      exact ⟨.inl ⟨⟨HGS.out, HSr.out⟩, rfl, HT.out⟩, HBase.out ▸ HB.out⟩
end Go.Proofs.Ytlkcpjefgelcoaa
