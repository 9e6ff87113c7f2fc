/- free, Add, Fork of none; no statement is proved in this text. -/
import Derived.Test.YtaapiffglfppnaaOr
namespace Go.Proofs.Ytaapiffglfppnaa
open Go.ChangeShapes Go.WideShapes Go.ChangeAt Go.RowKit Go.Deep
attribute [local go_sem ↓] Go.wp_at_zero Go.wp_at_succ

/-- The lowest number that is no object's, of a list that rises. -/
def frI : Nat → List Op4 → Nat
  | i, [] => i
  | i, x :: l => if x.1 = (i : Int) then frI (i + 1) l else i
theorem frI_drop {M : List Op4} {k : Nat} {x : Op4} (h : M[k]? = some x) : frI k (M.drop k) = if x.1 = (k : Int) then frI (k + 1) (M.drop (k + 1)) else k := by
  obtain ⟨hk, rfl⟩ := List.getElem?_eq_some_iff.1 h
  rw [List.drop_eq_getElem_cons hk]
  rfl
def FreeA (A : Tab) (V : Nat → Op4) (i : Nat) : Prop := ∃ M : List Op4, M.Perm (apL (nmL A V)) ∧ M.Pairwise (fun a b => a.1 ≤ b.1) ∧ i = frI 0 M
theorem frI_le : ∀ (M : List Op4) (i : Nat), frI i M ≤ i + M.length
  | [], i => by simp [frI]
  | x :: l, i => by
    unfold frI
    split
    · have := frI_le l (i + 1); simp; omega
    · simp
theorem FreeA.le {A : Tab} {V : Nat → Op4} {i : Nat} (h : FreeA A V i) : i ≤ 36 := by
  obtain ⟨M, hp, _, rfl⟩ := h
  have h1 := frI_le M 0
  have h2 := hp.length_eq
  have h3 := apL_len (nmL A V)
  have h4 := nm_len A V
  omega
set_option maxRecDepth 100000 in
set_option maxHeartbeats 1600000 in
theorem free_ok (w : World) (v : Value) (A : Tab) (V : Nat → Op4) (h : Tv w v A V) (hS : Sml A V) : Calls Try.prog 54 #[v] w fun e w' => (∃ i : Nat, e = .returned (i64 i) ∧ FreeA A V i) ∧ Below w.heap.size w w' := by
  have HO := hid (opens_ok w v A V h hS)
  obtain ⟨G, hG⟩ : ∃ G : Ending → Prop, G = fun e => ∃ i : Nat, e = .returned (i64 i) ∧ FreeA A V i := ⟨_, rfl⟩
  have HG : Hid (∀ i : Nat, FreeA A V i → G (.returned (i64 i))) := fun i hi => by rw [hG]; exact ⟨i, rfl, hi⟩
  suffices hh : Calls Try.prog 54 #[v] w fun e w' => G e ∧ Below w.heap.size w w' by rw [hG] at hh; exact hh
  have HNM : Hid ((apL (nmL A V)).length ≤ 36) := by have := apL_len (nmL A V); have := nm_len A V; show (apL (nmL A V)).length ≤ 36; omega
  clear h hS hG
  go_enter Try.func54, Try.ntmps54
  go_wp2_with fail
  refine HO.out.mono ?_
  rintro e w1 ⟨⟨ao, cap, M, rfl, hp, hs, hR, hcap⟩, hb1⟩
  have HB1 := hid hb1
  have HRd := hid hR
  have HP : Hid (∀ i, i = frI 0 M → G (.returned (i64 (i : Nat)))) := fun i hi => HG.out i ⟨M, hp, hs, hi⟩
  have hl : M.length ≤ 36 := by rw [hp.length_eq]; exact HNM.out
  obtain ⟨N, hN⟩ : ∃ N, N = M.length := ⟨_, rfl⟩
  have HN := hid hN
  rw [← hN] at hcap hl ⊢
  clear hb1 HO hp hs hR hN
  go_wp2_with fail
  go_loopw [10] (fun i wr => ∃ k : Nat, k ≤ N ∧ i = i64 k ∧ Hid (frI 0 M = frI k (M.drop k)) ∧ Hid (Below w1.heap.size w1 wr)) (fun i _ => N - (intOf i).toNat)
  case atStart => exact ⟨0, by omega, rfl, rfl, Below.refl _ _⟩
  case round =>
    obtain ⟨k, hk, rfl, HF, HB⟩ := hrel
    by_cases hlt : k < N
    · have hkI : (k : Int) < N := by omega
      obtain ⟨x, hx⟩ : ∃ x, M[k]? = some x := ⟨_, List.getElem?_eq_getElem (by rw [← HN.out]; exact hlt)⟩
      obtain ⟨g, o, rfl, hgl, c0, c1, c2, c3⟩ := HRd.out.below HB.out k x hx
      have HBV : Hid (Below w1.heap.size w1 (wr.alloc (oO x 54))) := HB.out.alloc HB.out.size _
      have hfd := frI_drop hx
      clear hx
      by_cases h1 : x.1 = (k : Int)
      · have q1 : (x.1 != (k : Int)) = false := by rw [bne, beq_iff_eq.2 h1]; rfl
        have HF2 : Hid (frI 0 M = frI (k + 1) (M.drop (k + 1))) := by rw [Hid, HF.out, hfd, if_pos h1]
        clear h1 hfd
        go_wp2_with fail
        exact ⟨⟨k + 1, by omega, by go_num, HF2, HBV⟩, by simp [intOf]; omega⟩
      · have q1 : (x.1 != (k : Int)) = true := by rw [bne, beq_false_of_ne h1]; rfl
        have HF2 : Hid (k = frI 0 M) := by rw [Hid, HF.out, hfd, if_neg h1]
        have HBz : Hid (Below w.heap.size w (wr.alloc (oO x 54))) := HB1.out.trans (HBV.out.mono HB1.out.size)
        clear h1 hfd
        go_wp2_with fail
        go_ret
        exact ⟨HP.out k HF2.out, HBz.out⟩
    · obtain rfl : k = N := by omega
      have HF2 : Hid (k = frI 0 M) := by
        rw [Hid, HF.out, List.drop_of_length_le (by rw [← HN.out]; omega)]
        rfl
      have HBz : Hid (Below w.heap.size w wr) := HB1.out.trans (HB.out.mono HB1.out.size)
      go_wp2_with fail
      go_ret
      exact ⟨HP.out k HF2.out, HBz.out⟩
set_option maxRecDepth 100000 in
set_option maxHeartbeats 1600000 in
theorem add_arg (w : World) (v : Value) (p kd ob : Int) (hr : rightF p 0 kd ob 0 = false) : Calls Try.prog 24 #[v, i64 p, i64 kd, i64 ob] w fun e w' => e = .returned (.tuple #[i64 0, i64 1]) ∧ Below w.heap.size w w' := by
  have HB := hid (below_one w (oO (0, kd, ob, 0) 54))
  have HE := hid (entry_ok (w.alloc (oO (0, kd, ob, 0) 54)) p 0 (0, kd, ob, 0))
  have HRi := hid fun W => right_ok W p 0 kd ob 0
  simp only [hr] at HRi
  have hz := zero54
  clear hr
  go_enter Try.func24, Try.ntmps24
  go_wp2_with fail
  refine HE.out.mono ?_
  rintro e w2 ⟨rfl, hb2⟩
  have HB2 : Hid (Below w.heap.size w w2) := HB.out.trans (hb2.mono HB.out.size)
  have HR2 := hid (HRi.out w2)
  clear hb2 HE HRi
  go_wp2_with fail
  refine HR2.out.mono ?_
  rintro e w3 ⟨rfl, hb3⟩
  have HB3 : Hid (Below w.heap.size w w3) := HB2.out.trans (hb3.mono HB2.out.size)
  clear hb3 HR2
  go_wp2_with fail
  go_ret2
  exact ⟨rfl, HB3.out⟩
set_option maxRecDepth 100000 in
set_option maxHeartbeats 1600000 in
theorem add_nil (w : World) (p kd ob : Int) (hr : rightF p 0 kd ob 0 = true) : Calls Try.prog 24 #[.pointer none, i64 p, i64 kd, i64 ob] w fun e w' => e = .returned (.tuple #[i64 0, i64 7]) ∧ Below w.heap.size w w' := by
  have HB := hid (below_one w (oO (0, kd, ob, 0) 54))
  have HE := hid (entry_ok (w.alloc (oO (0, kd, ob, 0) 54)) p 0 (0, kd, ob, 0))
  have HRi := hid fun W => right_ok W p 0 kd ob 0
  simp only [hr] at HRi
  have hz := zero54
  clear hr
  go_enter Try.func24, Try.ntmps24
  go_wp2_with fail
  refine HE.out.mono ?_
  rintro e w2 ⟨rfl, hb2⟩
  have HB2 : Hid (Below w.heap.size w w2) := HB.out.trans (hb2.mono HB.out.size)
  have HR2 := hid (HRi.out w2)
  clear hb2 HE HRi
  go_wp2_with fail
  refine HR2.out.mono ?_
  rintro e w3 ⟨rfl, hb3⟩
  have HB3 : Hid (Below w.heap.size w w3) := HB2.out.trans (hb3.mono HB2.out.size)
  clear hb3 HR2
  go_wp2_with fail
  go_ret2
  exact ⟨rfl, HB3.out⟩
def newV (V : Nat → Op4) (X : Nat) (y : Op4) : Nat → Op4 := fun b => if b = X then y else V b
theorem Tg.newV {w w' : World} {t X : Nat} {A : Tab} {V : Nat → Op4} {y : Op4} (h : Tg w t A V) (hX : w.heap.size ≤ X) (hb : Below w.heap.size w w') : Tg w' t A (Ytaapiffglfppnaa.newV V X y) := by
  refine ⟨blk_below h.blk hb, fun r g a hr hg ha => ?_⟩
  obtain ⟨h1, h2⟩ := h.obj r g a hr hg ha
  have := blk_lt h2
  refine ⟨h1, ?_⟩
  unfold Ytaapiffglfppnaa.newV
  rw [if_neg (by omega)]
  exact blk_below h2 hb
set_option maxRecDepth 100000 in
set_option maxHeartbeats 1600000 in
theorem add_gen (w : World) (t r : Nat) (A : Tab) (V : Nat → Op4) (kd ob : Int) (x y : Int) (Q : Nat → World → Prop) (h : Tg w t A V) (hS : Sml A V) (hr : rightF ((r : Int) + 1) 0 kd ob 0 = true)
    (hs : ∀ (W : World) (i : Nat), FreeA A V i → Below w.heap.size w W → W.heap[w.heap.size]? = some (oO ((i : Int), kd, ob, 0) 54) → Calls Try.prog 55 #[pq t, i64 ((r : Int) + 1), pq w.heap.size] W fun e w' => e = .returned (.tuple #[i64 x, i64 y]) ∧ Q i w') :
    Calls Try.prog 24 #[pq t, i64 ((r : Int) + 1), i64 kd, i64 ob] w fun e w' => e = .returned (.tuple #[i64 x, i64 y]) ∧ ∃ i, FreeA A V i ∧ Q i w' := by
  have HB := hid (below_one w (oO (0, kd, ob, 0) 54))
  have HX := hid (heap_last w (oO (0, kd, ob, 0) 54))
  have HE := hid (entry_ok (w.alloc (oO (0, kd, ob, 0) 54)) ((r : Int) + 1) 0 (0, kd, ob, 0))
  have HRi := hid fun W => right_ok W ((r : Int) + 1) 0 kd ob 0
  simp only [hr] at HRi
  have HF := hid fun W (hW : Tg W t A V) => free_ok W (pq t) A V hW.tv hS
  have HS := hid hs
  have HT := hid h
  have hz := zero54
  clear hr hs h hS
  go_enter Try.func24, Try.ntmps24
  go_wp2_with fail
  refine HE.out.mono ?_
  rintro e w2 ⟨rfl, hb2⟩
  have HB2 : Hid (Below w.heap.size w w2) := HB.out.trans (hb2.mono HB.out.size)
  have HX2 := hid (blk_below HX.out hb2)
  have HR2 := hid (HRi.out w2)
  clear hb2 HE HRi
  go_wp2_with fail
  refine HR2.out.mono ?_
  rintro e w3 ⟨rfl, hb3⟩
  have HB3 : Hid (Below w.heap.size w w3) := HB2.out.trans (hb3.mono HB2.out.size)
  have HX3 := hid (blk_below HX2.out hb3)
  have HF3 := hid (HF.out w3 (HT.out.below HB3.out))
  clear hb3 HR2 HF
  go_wp2_with fail
  refine HF3.out.mono ?_
  rintro e w4 ⟨⟨i, rfl, hi⟩, hb4⟩
  have HB4 : Hid (Below w.heap.size w w4) := HB3.out.trans (hb4.mono HB3.out.size)
  have HX4 := hid (blk_below HX3.out hb4)
  have HI := hid hi
  obtain ⟨x0, x1, x2, x3⟩ := four_cells HX4.out
  have xf := blk_frozen HX4.out
  have hxl := blk_lt HX4.out
  have HB5 : Hid (Below w.heap.size w (w4.setCell ⟨w.heap.size, 0, none⟩ (i64 i))) := HB4.out.setCell (Nat.le_refl _) _
  have HX5 : Hid ((w4.setCell ⟨w.heap.size, 0, none⟩ (i64 i)).heap[w.heap.size]? = some (oO ((i : Int), kd, ob, 0) 54)) := heap_setCell_same w4 w.heap.size 0 _ 54 (i64 i) HX4.out
  have HSt := hid (HS.out _ i hi HB5.out HX5.out)
  clear hb4 HF3 hi HS
  go_wp2_with fail
  refine HSt.out.mono ?_
  rintro e w6 ⟨rfl, hq⟩
  have HQ := hid hq
  clear hq HSt
  go_wp2_with fail
  go_ret2
  exact ⟨rfl, i, HI.out, HQ.out⟩
set_option maxRecDepth 100000 in
set_option maxHeartbeats 1600000 in
theorem fork_nil (w : World) (p c : Int) : Calls Try.prog 26 #[.pointer none, i64 p, i64 c] w fun e w' => (∃ g : Int, e = .returned (i64 g) ∧ (g = 1 ∨ g = 7)) ∧ w' = w := by
  have HP := hid (proc_ok w p)
  have HQ := hid (proc_ok w c)
  obtain ⟨G, hG⟩ : ∃ G : Ending → Prop, G = fun e => ∃ g : Int, e = .returned (i64 g) ∧ (g = 1 ∨ g = 7) := ⟨_, rfl⟩
  have HG1 : Hid (G (.returned (i64 1))) := by rw [Hid, hG]; exact ⟨1, rfl, .inl rfl⟩
  have HG7 : Hid (G (.returned (i64 7))) := by rw [Hid, hG]; exact ⟨7, rfl, .inr rfl⟩
  suffices hh : Calls Try.prog 26 #[.pointer none, i64 p, i64 c] w fun e w' => G e ∧ w' = w by rw [hG] at hh; exact hh
  clear hG
  by_cases hp : 1 ≤ p ∧ p ≤ 6
  · rw [decide_eq_true hp] at HP
    by_cases hc : 1 ≤ c ∧ c ≤ 6
    · rw [decide_eq_true hc] at HQ
      clear hp hc
      cases hpc : (p == c)
      all_goals
        go_enter Try.func26, Try.ntmps26
        go_wp2_with fail
        refine HP.out.mono ?_
        rintro e2 w2 ⟨rfl, hv⟩
        replace hv := hv.symm
        subst hv
        go_wp2_with fail
        refine HQ.out.mono ?_
        rintro e2 w2 ⟨rfl, hv⟩
        replace hv := hv.symm
        subst hv
        clear HP HQ
        go_wp2_with fail
        go_ret
        first | exact ⟨HG7.out, rfl⟩ | exact ⟨HG1.out, rfl⟩
    · rw [decide_eq_false hc] at HQ
      clear hp hc
      go_enter Try.func26, Try.ntmps26
      go_wp2_with fail
      refine HP.out.mono ?_
      rintro e2 w2 ⟨rfl, hv⟩
      replace hv := hv.symm
      subst hv
      go_wp2_with fail
      refine HQ.out.mono ?_
      rintro e2 w2 ⟨rfl, hv⟩
      replace hv := hv.symm
      subst hv
      clear HP HQ
      go_wp2_with fail
      go_ret
      exact ⟨HG1.out, rfl⟩
  · rw [decide_eq_false hp] at HP
    clear hp
    go_enter Try.func26, Try.ntmps26
    go_wp2_with fail
    refine HP.out.mono ?_
    rintro e2 w2 ⟨rfl, hv⟩
    replace hv := hv.symm
    subst hv
    clear HP HQ
    go_wp2_with fail
    go_ret
    exact ⟨HG1.out, rfl⟩
end Go.Proofs.Ytaapiffglfppnaa
