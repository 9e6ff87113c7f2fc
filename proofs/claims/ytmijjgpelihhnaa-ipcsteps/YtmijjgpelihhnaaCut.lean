/- ipc.cut: its contracts; no statement is proved in this text. -/
import Derived.Test.YtmijjgpelihhnaaCut0
namespace Go.Proofs.Ytmijjgpelihhnaa
open Go.ChangeShapes Go.WideShapes Go.ChangeAt Go.RowKit Go.Deep
attribute [local go_sem ↓] Go.wp_at_zero Go.wp_at_succ

theorem cut_nil (w : World) (v : Value) : Calls Try.prog 19 #[.pointer none, v] w fun e w' => e = .returned (i64 0) ∧ w' = w := by
  go_enter Try.func19, Try.ntmps19
  go_wp2_with fail
  go_ret
  exact ⟨rfl, rfl⟩
theorem pidx0 (x y z : Value) (w : World) : (Instr.index 52 (.agg #[x, y, z]) (.int .i64 0)).run Try.prog w = .ok x w := by kernel_rfl
theorem pidx1 (x y z : Value) (w : World) : (Instr.index 52 (.agg #[x, y, z]) (.int .i64 1)).run Try.prog w = .ok y w := by kernel_rfl
theorem pidx2 (x y z : Value) (w : World) : (Instr.index 52 (.agg #[x, y, z]) (.int .i64 2)).run Try.prog w = .ok z w := by kernel_rfl
theorem gc_bd (Q S : Nat → List Ms) (h1 : ∀ j, (S j).length ≤ (Q j).length) (h2 : ∀ j, (Q j).length ≤ 4) (k : Nat) : 0 ≤ gc Q S k ∧ gc Q S k ≤ 4 * k := by
  induction k with
  | zero => simp [gc]
  | succ k ih =>
    have := h1 k
    have := h2 k
    rw [gc]
    omega
def cutQ20 (env : Int) (Q : Nat → List Ms) : Nat → List Ms := fun j => stF (g20 env ((j : Nat) + 1)) (Q j)
set_option maxRecDepth 100000 in
set_option maxHeartbeats 6400000 in
theorem cut20 {w : World} {base P : Nat} {Q : Nat → List Ms} (h : Pt w base P Q) (q : Nat) (env : Int) (hq : w.heap[q]? = some (.cells #[i64 env] 3)) :
    Calls Try.prog 19 #[pq P, .func (.func 20) #[] #[pq q]] w fun e w' => e = .returned (i64 (gc Q (cutQ20 env Q) 3)) ∧ Far w w' base P (cutQ20 env Q) ∧ Tq w.heap.size P w w' := by
  have hPl := h.lt
  have hlo := h.lo
  have hle := h.le
  obtain ⟨S, hS⟩ : ∃ S, S = cutQ20 env Q := ⟨_, rfl⟩
  rw [← hS]
  have hSl : ∀ j, (S j).length ≤ (Q j).length := fun j => by rw [hS]; exact stK_le _ _ _
  have HGB : Hid (∀ k, 0 ≤ gc Q S k ∧ gc Q S k ≤ 4 * k) := gc_bd Q S hSl hle
  have HSL := hid hSl
  have HLE := hid hle
  have HSE := hid hS
  obtain ⟨a0, a1, a2, hP, hO⟩ := h.blk
  have HI0 : Hid (Inv w base P Q S a0 a1 a2 0 w) := ⟨⟨a0, a1, a2, hP, hO, fun _ => rfl, fun _ => rfl, fun _ => rfl, fun h => absurd h (by omega), fun h => absurd h (by omega), fun h => absurd h (by omega)⟩, Tq.refl _ _ _⟩
  have hqP : q ≠ P := fun e => by rw [e, hP] at hq; simp at hq
  have HQ : Hid (∀ W, Tq w.heap.size P w W → W.heap[q]? = some (.cells #[i64 env] 3)) := fun W hW => by rw [hW.block q (blk_lt hq) hqP]; exact hq
  have HC : Hid (∀ W, W.heap[q]? = some (.cells #[i64 env] 3) → ∀ t a f d, Calls Try.prog 20 #[i64 t, i64 a, .agg #[i64 f, u16v d], pq q] W fun e w' => e = .returned (.bool (g20 env t a (f, d))) ∧ Below W.heap.size W w') := fun W hW t a f d => cl20_ok W q env t a f d hW
  have p0 : w.cell? ⟨P, 0, none⟩ = some a0 := blk_cell hP 0
  have p1 : w.cell? ⟨P, 1, none⟩ = some a1 := blk_cell hP 1
  have p2 : w.cell? ⟨P, 2, none⟩ = some a2 := blk_cell hP 2
  obtain ⟨ao0, cap0, e0, _⟩ := own_slice hO.o0
  obtain ⟨ao1, cap1, e1, _⟩ := own_slice hO.o1
  obtain ⟨ao2, cap2, e2, _⟩ := own_slice hO.o2
  obtain ⟨n0, hn0⟩ : ∃ n, n = (Q 0).length := ⟨_, rfl⟩
  obtain ⟨n1, hn1⟩ : ∃ n, n = (Q 1).length := ⟨_, rfl⟩
  obtain ⟨n2, hn2⟩ : ∃ n, n = (Q 2).length := ⟨_, rfl⟩
  rw [← hn0] at e0
  rw [← hn1] at e1
  rw [← hn2] at e2
  subst e0 e1 e2
  have hl0 := hle 0
  have hl1 := hle 1
  have hl2 := hle 2
  rw [← hn0] at hl0
  rw [← hn1] at hl1
  rw [← hn2] at hl2
  have HN0 := hid hn0
  have HN1 := hid hn1
  have HN2 := hid hn2
  clear h hO hP hq hS hn0 hn1 hn2 hSl hle hqP
  go_enter Try.func19, Try.ntmps19
  go_wp2_with fail
  clear p0 p1 p2
  go_loopw [5, 17] (fun x u wr => ∃ (k : Nat) (z G : Int), k ≤ 3 ∧ z = k ∧ u = i64 z ∧ x = i64 G ∧ Hid (G = gc Q S k) ∧ Hid (Inv w base P Q S (.slice ao0 n0 cap0) (.slice ao1 n1 cap1) (.slice ao2 n2 cap2) k wr)) (fun _ u _ => 3 - (intOf u).toNat)
  case atStart => exact ⟨0, 0, 0, by omega, rfl, rfl, rfl, hid rfl, HI0⟩
  case round =>
    obtain ⟨k, z, G, hk, hz, rfl, rfl, HG, HI⟩ := hrel
    have hGb := HGB.out k
    rw [← HG.out] at hGb
    obtain ⟨hG0, hG1⟩ := hGb
    by_cases hk3 : k = 3
    · subst hk3
      obtain rfl : z = 3 := by omega
      have HF : Hid (Far w wr base P S ∧ Tq w.heap.size P w wr) := ⟨HI.out.far hlo (fun i => Nat.le_trans (HSL.out i) (HLE.out i)), HI.out.tq⟩
      clear hz hk hG0 hG1
      go_wp2_with fail
      go_ret
      exact ⟨by rw [← HG.out]; rfl, HF.out⟩
    · have hk' : k = 0 ∨ k = 1 ∨ k = 2 := by omega
      clear hk hk3
      rcases hk' with rfl | rfl | rfl
      · obtain rfl : z = 0 := by omega
        clear hz
        have hG2 : G ≤ 12 := by omega
        clear hG1
        obtain ⟨⟨b0, b1, b2, hPb, hO, h0, h1, h2, _⟩, htq⟩ := HI.out
        obtain rfl := h0 (by omega)
        have hrow := hO.o0
        rw [show mix 0 Q S 0 = Q 0 by simp [mix], ← HN0.out] at hrow
        have HR := hid hrow
        have HTq := hid htq
        have hmS : (S 0).length ≤ n0 := by rw [HN0.out]; exact HSL.out 0
        have HST : Hid (S 0 = stK (g20 env 1) (Q 0) n0) := by rw [HSE.out, HN0.out]; rfl
        have hV0s := htq.size
        clear hPb hO h0 h1 h2 hrow htq
        generalize wr = V0 at *
        have ix : ∀ w, (Instr.index 52 (.agg #[.slice ao0 n0 cap0, .slice ao1 n1 cap1, .slice ao2 n2 cap2]) (.int .i64 0)).run Try.prog w = .ok (.slice ao0 n0 cap0) w := fun w => pidx0 _ _ _ w
        have hnI : (n0 : Int) ≤ 4 := by omega
        go_wp2_with fail
        clear ix
        go_loopw [8, 23] (fun v u wr => ∃ (j : Nat), j ≤ n0 ∧ u = i64 j ∧ Hid (Below V0.heap.size V0 wr) ∧ Hid (wr.ownsRow V0.heap.size 39 2 v (stK (g20 env 1) (Q 0) j).length (mcn (stK (g20 env 1) (Q 0) j)))) (fun _ u _ => n0 - (intOf u).toNat)
        case atStart => exact ⟨0, by omega, rfl, hid (Below.refl _ _), hid (World.ownsRow_nil V0 _ 39 2)⟩
        case round =>
          obtain ⟨j, hj, rfl, HB, HO⟩ := hrel
          by_cases hlt : j < n0
          · obtain ⟨⟨f, d⟩, hm⟩ : ∃ m, (Q 0)[j]? = some m := ⟨_, List.getElem?_eq_getElem (by rw [← HN0.out]; exact hlt)⟩
            have hjI : (j : Int) < n0 := by omega
            have HM := hid hm
            have hrw : wr.ownsRow base 39 2 (.slice ao0 n0 cap0) n0 (mcn (Q 0)) := own_keep HR.out (fun k C hC => blk_below hC HB.out)
            rcases hrw.2 with ⟨_, hnil⟩ | ⟨g, cap', cur, hv, hbg, hgg, _⟩
            · exfalso; omega
            · simp only [Value.slice.injEq] at hv
              obtain ⟨rfl, _, rfl⟩ := hv
              have cg := mcn_get (Q 0) j (f, d) hm
              have cG0 : wr.cell? ⟨g, j * 2, none⟩ = some (i64 f) := by rw [hrw.cellAt (j * 2) (by omega)]; exact cg.1
              have cG1 : wr.cell? ⟨g, j * 2 + 1, none⟩ = some (u16v d) := by rw [hrw.cellAt (j * 2 + 1) (by omega)]; exact cg.2
              have hqr := HQ.out wr (HTq.out.trans (Tq.of_below (HB.out.mono HTq.out.size)))
              have HQR := hid hqr
              clear hrw cg hm hbg hgg hqr
              have HLk := hid (stK_le (g20 env 1) (Q 0) j)
              cases hg : g20 env 1 (j : Nat) (f, d) with
              | true =>
                have HOk : Hid (stK (g20 env 1) (Q 0) (j + 1) = stK (g20 env 1) (Q 0) j) := stK_go HM.out hg
                have HCg : Hid (∀ W, W.heap[q]? = some (.cells #[i64 env] 3) → Calls Try.prog 20 #[i64 1, i64 (j : Nat), .agg #[i64 f, u16v d], pq q] W fun e w' => e = .returned (.bool true) ∧ Below W.heap.size W w') := fun W hW => by have := HC.out W hW 1 (j : Nat) f d; rw [hg] at this; exact this
                clear hg
                go_wp2_with fail
                refine (HCg.out _ (blk_below HQR.out (boxed_below wr (f, d)))).mono ?_
                rintro e w5 ⟨rfl, hb5⟩
                have hbw : Below wr.heap.size wr w5 := (boxed_below wr (f, d)).trans (hb5.mono (boxed_below wr (f, d)).size)
                have HB5 : Hid (Below V0.heap.size V0 w5) := HB.out.trans (hbw.mono HB.out.size)
                have HO5 : Hid (w5.ownsRow V0.heap.size 39 2 u8 (stK (g20 env 1) (Q 0) (j + 1)).length (mcn (stK (g20 env 1) (Q 0) (j + 1)))) := by rw [HOk.out]; exact own_keep HO.out (fun k C hC => blk_below hC hbw)
                clear hb5 hbw
                go_wp2_with fail
                exact ⟨⟨j + 1, by omega, by go_num, HB5, HO5⟩, by simp [intOf]; omega⟩
              | false =>
                have HOk : Hid (stK (g20 env 1) (Q 0) (j + 1) = stK (g20 env 1) (Q 0) j ++ [(f, d)]) := stK_stay HM.out hg
                have HCg : Hid (∀ W, W.heap[q]? = some (.cells #[i64 env] 3) → Calls Try.prog 20 #[i64 1, i64 (j : Nat), .agg #[i64 f, u16v d], pq q] W fun e w' => e = .returned (.bool false) ∧ Below W.heap.size W w') := fun W hW => by have := HC.out W hW 1 (j : Nat) f d; rw [hg] at this; exact this
                clear hg
                obtain ⟨ao8, cap8, hu8, _⟩ := own_slice HO.out
                subst hu8
                go_wp2_with fail
                refine (HCg.out _ (blk_below HQR.out (boxed_below wr (f, d)))).mono ?_
                rintro e w5 ⟨rfl, hb5⟩
                have hbw : Below wr.heap.size wr w5 := (boxed_below wr (f, d)).trans (hb5.mono (boxed_below wr (f, d)).size)
                have hbx : w5.heap[wr.heap.size]? = some (msO (f, d)) := blk_below (boxed_at wr (f, d)) hb5
                have x0 : w5.cell? ⟨wr.heap.size, 0, none⟩ = some (i64 f) := blk_cell hbx 0
                have x1 : w5.cell? ⟨wr.heap.size, 1, none⟩ = some (u16v d) := blk_cell hbx 1
                have hB5 : Below V0.heap.size V0 w5 := HB.out.trans (hbw.mono HB.out.size)
                have hO5 : w5.ownsRow V0.heap.size 39 2 (.slice ao8 (stK (g20 env 1) (Q 0) j).length cap8) (stK (g20 env 1) (Q 0) j).length (mcn (stK (g20 env 1) (Q 0) j)) := own_keep HO.out (fun k C hC => blk_below hC hbw)
                obtain ⟨ao9, cap9, w6, hrun, hown, hfr, _⟩ := app_far (te := 39) under51 info39x rfl (by omega) (by omega) hO5 [i64 f, u16v d] rfl (msl_one (f, d)) (by have := HLk.out; omega) hB5.size
                have HB6 : Hid (Below V0.heap.size V0 w6) := hB5.trans hfr.below
                have HO6 : Hid (w6.ownsRow V0.heap.size 39 2 (.slice ao9 ((stK (g20 env 1) (Q 0) j).length + 1) cap9) (stK (g20 env 1) (Q 0) (j + 1)).length (mcn (stK (g20 env 1) (Q 0) (j + 1)))) := by rw [HOk.out, List.length_append, mcn_app]; exact hown
                have HRUN := hid hrun
                clear hb5 hbw hbx hB5 hO5 hrun hown hfr
                generalize (stK (g20 env 1) (Q 0) j).length = n at *
                go_wp2_with (at_builtin; refine wpList_app_run rfl (.tmp 35) (.tmp 37) 51 rfl _ _ rfl rfl 51 rfl _ _ HRUN.out ?_)
                exact ⟨⟨j + 1, by omega, by go_num, HB6, HO6⟩, by simp [intOf]; omega⟩
          · obtain rfl : n0 = j := by omega
            have hOS : wr.ownsRow V0.heap.size 39 2 u8 (S 0).length (mcn (S 0)) := by rw [HST.out]; exact HO.out
            obtain ⟨ao8, cap8, hu8, _⟩ := own_slice hOS
            subst hu8
            have hI2 := inv_step0 HI.out (by omega) HB.out hOS
            have HI2 := hid hI2
            obtain ⟨⟨b0, b1, b2, hPb, _⟩, _⟩ := HI.out
            have hPb2 := blk_below hPb HB.out
            have pc := blk_cell hPb2 0
            have pf := blk_frozen hPb2 0
            have hmc : ((S 0).length : Int) ≤ n0 := by omega
            have HG3 : Hid (G + ((n0 : Int) - (S 0).length) = gc Q S 1) := by rw [HG.out, HN0.out]; rfl
            clear hOS hI2 hPb hPb2
            generalize (S 0).length = m at *
            go_wp2_with fail
            exact ⟨⟨1, 1, G + ((n0 : Int) - m), by omega, rfl, by go_num, by go_num, HG3, HI2⟩, by simp [intOf]⟩
      · obtain rfl : z = 1 := by omega
        clear hz
        have hG2 : G ≤ 12 := by omega
        clear hG1
        obtain ⟨⟨b0, b1, b2, hPb, hO, h0, h1, h2, _⟩, htq⟩ := HI.out
        obtain rfl := h1 (by omega)
        have hrow := hO.o1
        rw [show mix 1 Q S 1 = Q 1 by simp [mix], ← HN1.out] at hrow
        have HR := hid hrow
        have HTq := hid htq
        have hmS : (S 1).length ≤ n1 := by rw [HN1.out]; exact HSL.out 1
        have HST : Hid (S 1 = stK (g20 env 2) (Q 1) n1) := by rw [HSE.out, HN1.out]; rfl
        have hV0s := htq.size
        clear hPb hO h0 h1 h2 hrow htq
        generalize wr = V0 at *
        have ix : ∀ w, (Instr.index 52 (.agg #[.slice ao0 n0 cap0, .slice ao1 n1 cap1, .slice ao2 n2 cap2]) (.int .i64 1)).run Try.prog w = .ok (.slice ao1 n1 cap1) w := fun w => pidx1 _ _ _ w
        have hnI : (n1 : Int) ≤ 4 := by omega
        go_wp2_with fail
        clear ix
        go_loopw [8, 23] (fun v u wr => ∃ (j : Nat), j ≤ n1 ∧ u = i64 j ∧ Hid (Below V0.heap.size V0 wr) ∧ Hid (wr.ownsRow V0.heap.size 39 2 v (stK (g20 env 2) (Q 1) j).length (mcn (stK (g20 env 2) (Q 1) j)))) (fun _ u _ => n1 - (intOf u).toNat)
        case atStart => exact ⟨0, by omega, rfl, hid (Below.refl _ _), hid (World.ownsRow_nil V0 _ 39 2)⟩
        case round =>
          obtain ⟨j, hj, rfl, HB, HO⟩ := hrel
          by_cases hlt : j < n1
          · obtain ⟨⟨f, d⟩, hm⟩ : ∃ m, (Q 1)[j]? = some m := ⟨_, List.getElem?_eq_getElem (by rw [← HN1.out]; exact hlt)⟩
            have hjI : (j : Int) < n1 := by omega
            have HM := hid hm
            have hrw : wr.ownsRow base 39 2 (.slice ao1 n1 cap1) n1 (mcn (Q 1)) := own_keep HR.out (fun k C hC => blk_below hC HB.out)
            rcases hrw.2 with ⟨_, hnil⟩ | ⟨g, cap', cur, hv, hbg, hgg, _⟩
            · exfalso; omega
            · simp only [Value.slice.injEq] at hv
              obtain ⟨rfl, _, rfl⟩ := hv
              have cg := mcn_get (Q 1) j (f, d) hm
              have cG0 : wr.cell? ⟨g, j * 2, none⟩ = some (i64 f) := by rw [hrw.cellAt (j * 2) (by omega)]; exact cg.1
              have cG1 : wr.cell? ⟨g, j * 2 + 1, none⟩ = some (u16v d) := by rw [hrw.cellAt (j * 2 + 1) (by omega)]; exact cg.2
              have hqr := HQ.out wr (HTq.out.trans (Tq.of_below (HB.out.mono HTq.out.size)))
              have HQR := hid hqr
              clear hrw cg hm hbg hgg hqr
              have HLk := hid (stK_le (g20 env 2) (Q 1) j)
              cases hg : g20 env 2 (j : Nat) (f, d) with
              | true =>
                have HOk : Hid (stK (g20 env 2) (Q 1) (j + 1) = stK (g20 env 2) (Q 1) j) := stK_go HM.out hg
                have HCg : Hid (∀ W, W.heap[q]? = some (.cells #[i64 env] 3) → Calls Try.prog 20 #[i64 2, i64 (j : Nat), .agg #[i64 f, u16v d], pq q] W fun e w' => e = .returned (.bool true) ∧ Below W.heap.size W w') := fun W hW => by have := HC.out W hW 2 (j : Nat) f d; rw [hg] at this; exact this
                clear hg
                go_wp2_with fail
                refine (HCg.out _ (blk_below HQR.out (boxed_below wr (f, d)))).mono ?_
                rintro e w5 ⟨rfl, hb5⟩
                have hbw : Below wr.heap.size wr w5 := (boxed_below wr (f, d)).trans (hb5.mono (boxed_below wr (f, d)).size)
                have HB5 : Hid (Below V0.heap.size V0 w5) := HB.out.trans (hbw.mono HB.out.size)
                have HO5 : Hid (w5.ownsRow V0.heap.size 39 2 u8 (stK (g20 env 2) (Q 1) (j + 1)).length (mcn (stK (g20 env 2) (Q 1) (j + 1)))) := by rw [HOk.out]; exact own_keep HO.out (fun k C hC => blk_below hC hbw)
                clear hb5 hbw
                go_wp2_with fail
                exact ⟨⟨j + 1, by omega, by go_num, HB5, HO5⟩, by simp [intOf]; omega⟩
              | false =>
                have HOk : Hid (stK (g20 env 2) (Q 1) (j + 1) = stK (g20 env 2) (Q 1) j ++ [(f, d)]) := stK_stay HM.out hg
                have HCg : Hid (∀ W, W.heap[q]? = some (.cells #[i64 env] 3) → Calls Try.prog 20 #[i64 2, i64 (j : Nat), .agg #[i64 f, u16v d], pq q] W fun e w' => e = .returned (.bool false) ∧ Below W.heap.size W w') := fun W hW => by have := HC.out W hW 2 (j : Nat) f d; rw [hg] at this; exact this
                clear hg
                obtain ⟨ao8, cap8, hu8, _⟩ := own_slice HO.out
                subst hu8
                go_wp2_with fail
                refine (HCg.out _ (blk_below HQR.out (boxed_below wr (f, d)))).mono ?_
                rintro e w5 ⟨rfl, hb5⟩
                have hbw : Below wr.heap.size wr w5 := (boxed_below wr (f, d)).trans (hb5.mono (boxed_below wr (f, d)).size)
                have hbx : w5.heap[wr.heap.size]? = some (msO (f, d)) := blk_below (boxed_at wr (f, d)) hb5
                have x0 : w5.cell? ⟨wr.heap.size, 0, none⟩ = some (i64 f) := blk_cell hbx 0
                have x1 : w5.cell? ⟨wr.heap.size, 1, none⟩ = some (u16v d) := blk_cell hbx 1
                have hB5 : Below V0.heap.size V0 w5 := HB.out.trans (hbw.mono HB.out.size)
                have hO5 : w5.ownsRow V0.heap.size 39 2 (.slice ao8 (stK (g20 env 2) (Q 1) j).length cap8) (stK (g20 env 2) (Q 1) j).length (mcn (stK (g20 env 2) (Q 1) j)) := own_keep HO.out (fun k C hC => blk_below hC hbw)
                obtain ⟨ao9, cap9, w6, hrun, hown, hfr, _⟩ := app_far (te := 39) under51 info39x rfl (by omega) (by omega) hO5 [i64 f, u16v d] rfl (msl_one (f, d)) (by have := HLk.out; omega) hB5.size
                have HB6 : Hid (Below V0.heap.size V0 w6) := hB5.trans hfr.below
                have HO6 : Hid (w6.ownsRow V0.heap.size 39 2 (.slice ao9 ((stK (g20 env 2) (Q 1) j).length + 1) cap9) (stK (g20 env 2) (Q 1) (j + 1)).length (mcn (stK (g20 env 2) (Q 1) (j + 1)))) := by rw [HOk.out, List.length_append, mcn_app]; exact hown
                have HRUN := hid hrun
                clear hb5 hbw hbx hB5 hO5 hrun hown hfr
                generalize (stK (g20 env 2) (Q 1) j).length = n at *
                go_wp2_with (at_builtin; refine wpList_app_run rfl (.tmp 35) (.tmp 37) 51 rfl _ _ rfl rfl 51 rfl _ _ HRUN.out ?_)
                exact ⟨⟨j + 1, by omega, by go_num, HB6, HO6⟩, by simp [intOf]; omega⟩
          · obtain rfl : n1 = j := by omega
            have hOS : wr.ownsRow V0.heap.size 39 2 u8 (S 1).length (mcn (S 1)) := by rw [HST.out]; exact HO.out
            obtain ⟨ao8, cap8, hu8, _⟩ := own_slice hOS
            subst hu8
            have hI2 := inv_step1 HI.out (by omega) HB.out hOS
            have HI2 := hid hI2
            obtain ⟨⟨b0, b1, b2, hPb, _⟩, _⟩ := HI.out
            have hPb2 := blk_below hPb HB.out
            have pc := blk_cell hPb2 1
            have pf := blk_frozen hPb2 1
            have hmc : ((S 1).length : Int) ≤ n1 := by omega
            have HG3 : Hid (G + ((n1 : Int) - (S 1).length) = gc Q S 2) := by rw [HG.out, HN1.out]; rfl
            clear hOS hI2 hPb hPb2
            generalize (S 1).length = m at *
            go_wp2_with fail
            exact ⟨⟨2, 2, G + ((n1 : Int) - m), by omega, rfl, by go_num, by go_num, HG3, HI2⟩, by simp [intOf]⟩
      · obtain rfl : z = 2 := by omega
        clear hz
        have hG2 : G ≤ 12 := by omega
        clear hG1
        obtain ⟨⟨b0, b1, b2, hPb, hO, h0, h1, h2, _⟩, htq⟩ := HI.out
        obtain rfl := h2 (by omega)
        have hrow := hO.o2
        rw [show mix 2 Q S 2 = Q 2 by simp [mix], ← HN2.out] at hrow
        have HR := hid hrow
        have HTq := hid htq
        have hmS : (S 2).length ≤ n2 := by rw [HN2.out]; exact HSL.out 2
        have HST : Hid (S 2 = stK (g20 env 3) (Q 2) n2) := by rw [HSE.out, HN2.out]; rfl
        have hV0s := htq.size
        clear hPb hO h0 h1 h2 hrow htq
        generalize wr = V0 at *
        have ix : ∀ w, (Instr.index 52 (.agg #[.slice ao0 n0 cap0, .slice ao1 n1 cap1, .slice ao2 n2 cap2]) (.int .i64 2)).run Try.prog w = .ok (.slice ao2 n2 cap2) w := fun w => pidx2 _ _ _ w
        have hnI : (n2 : Int) ≤ 4 := by omega
        go_wp2_with fail
        clear ix
        go_loopw [8, 23] (fun v u wr => ∃ (j : Nat), j ≤ n2 ∧ u = i64 j ∧ Hid (Below V0.heap.size V0 wr) ∧ Hid (wr.ownsRow V0.heap.size 39 2 v (stK (g20 env 3) (Q 2) j).length (mcn (stK (g20 env 3) (Q 2) j)))) (fun _ u _ => n2 - (intOf u).toNat)
        case atStart => exact ⟨0, by omega, rfl, hid (Below.refl _ _), hid (World.ownsRow_nil V0 _ 39 2)⟩
        case round =>
          obtain ⟨j, hj, rfl, HB, HO⟩ := hrel
          by_cases hlt : j < n2
          · obtain ⟨⟨f, d⟩, hm⟩ : ∃ m, (Q 2)[j]? = some m := ⟨_, List.getElem?_eq_getElem (by rw [← HN2.out]; exact hlt)⟩
            have hjI : (j : Int) < n2 := by omega
            have HM := hid hm
            have hrw : wr.ownsRow base 39 2 (.slice ao2 n2 cap2) n2 (mcn (Q 2)) := own_keep HR.out (fun k C hC => blk_below hC HB.out)
            rcases hrw.2 with ⟨_, hnil⟩ | ⟨g, cap', cur, hv, hbg, hgg, _⟩
            · exfalso; omega
            · simp only [Value.slice.injEq] at hv
              obtain ⟨rfl, _, rfl⟩ := hv
              have cg := mcn_get (Q 2) j (f, d) hm
              have cG0 : wr.cell? ⟨g, j * 2, none⟩ = some (i64 f) := by rw [hrw.cellAt (j * 2) (by omega)]; exact cg.1
              have cG1 : wr.cell? ⟨g, j * 2 + 1, none⟩ = some (u16v d) := by rw [hrw.cellAt (j * 2 + 1) (by omega)]; exact cg.2
              have hqr := HQ.out wr (HTq.out.trans (Tq.of_below (HB.out.mono HTq.out.size)))
              have HQR := hid hqr
              clear hrw cg hm hbg hgg hqr
              have HLk := hid (stK_le (g20 env 3) (Q 2) j)
              cases hg : g20 env 3 (j : Nat) (f, d) with
              | true =>
                have HOk : Hid (stK (g20 env 3) (Q 2) (j + 1) = stK (g20 env 3) (Q 2) j) := stK_go HM.out hg
                have HCg : Hid (∀ W, W.heap[q]? = some (.cells #[i64 env] 3) → Calls Try.prog 20 #[i64 3, i64 (j : Nat), .agg #[i64 f, u16v d], pq q] W fun e w' => e = .returned (.bool true) ∧ Below W.heap.size W w') := fun W hW => by have := HC.out W hW 3 (j : Nat) f d; rw [hg] at this; exact this
                clear hg
                go_wp2_with fail
                refine (HCg.out _ (blk_below HQR.out (boxed_below wr (f, d)))).mono ?_
                rintro e w5 ⟨rfl, hb5⟩
                have hbw : Below wr.heap.size wr w5 := (boxed_below wr (f, d)).trans (hb5.mono (boxed_below wr (f, d)).size)
                have HB5 : Hid (Below V0.heap.size V0 w5) := HB.out.trans (hbw.mono HB.out.size)
                have HO5 : Hid (w5.ownsRow V0.heap.size 39 2 u8 (stK (g20 env 3) (Q 2) (j + 1)).length (mcn (stK (g20 env 3) (Q 2) (j + 1)))) := by rw [HOk.out]; exact own_keep HO.out (fun k C hC => blk_below hC hbw)
                clear hb5 hbw
                go_wp2_with fail
                exact ⟨⟨j + 1, by omega, by go_num, HB5, HO5⟩, by simp [intOf]; omega⟩
              | false =>
                have HOk : Hid (stK (g20 env 3) (Q 2) (j + 1) = stK (g20 env 3) (Q 2) j ++ [(f, d)]) := stK_stay HM.out hg
                have HCg : Hid (∀ W, W.heap[q]? = some (.cells #[i64 env] 3) → Calls Try.prog 20 #[i64 3, i64 (j : Nat), .agg #[i64 f, u16v d], pq q] W fun e w' => e = .returned (.bool false) ∧ Below W.heap.size W w') := fun W hW => by have := HC.out W hW 3 (j : Nat) f d; rw [hg] at this; exact this
                clear hg
                obtain ⟨ao8, cap8, hu8, _⟩ := own_slice HO.out
                subst hu8
                go_wp2_with fail
                refine (HCg.out _ (blk_below HQR.out (boxed_below wr (f, d)))).mono ?_
                rintro e w5 ⟨rfl, hb5⟩
                have hbw : Below wr.heap.size wr w5 := (boxed_below wr (f, d)).trans (hb5.mono (boxed_below wr (f, d)).size)
                have hbx : w5.heap[wr.heap.size]? = some (msO (f, d)) := blk_below (boxed_at wr (f, d)) hb5
                have x0 : w5.cell? ⟨wr.heap.size, 0, none⟩ = some (i64 f) := blk_cell hbx 0
                have x1 : w5.cell? ⟨wr.heap.size, 1, none⟩ = some (u16v d) := blk_cell hbx 1
                have hB5 : Below V0.heap.size V0 w5 := HB.out.trans (hbw.mono HB.out.size)
                have hO5 : w5.ownsRow V0.heap.size 39 2 (.slice ao8 (stK (g20 env 3) (Q 2) j).length cap8) (stK (g20 env 3) (Q 2) j).length (mcn (stK (g20 env 3) (Q 2) j)) := own_keep HO.out (fun k C hC => blk_below hC hbw)
                obtain ⟨ao9, cap9, w6, hrun, hown, hfr, _⟩ := app_far (te := 39) under51 info39x rfl (by omega) (by omega) hO5 [i64 f, u16v d] rfl (msl_one (f, d)) (by have := HLk.out; omega) hB5.size
                have HB6 : Hid (Below V0.heap.size V0 w6) := hB5.trans hfr.below
                have HO6 : Hid (w6.ownsRow V0.heap.size 39 2 (.slice ao9 ((stK (g20 env 3) (Q 2) j).length + 1) cap9) (stK (g20 env 3) (Q 2) (j + 1)).length (mcn (stK (g20 env 3) (Q 2) (j + 1)))) := by rw [HOk.out, List.length_append, mcn_app]; exact hown
                have HRUN := hid hrun
                clear hb5 hbw hbx hB5 hO5 hrun hown hfr
                generalize (stK (g20 env 3) (Q 2) j).length = n at *
                go_wp2_with (at_builtin; refine wpList_app_run rfl (.tmp 35) (.tmp 37) 51 rfl _ _ rfl rfl 51 rfl _ _ HRUN.out ?_)
                exact ⟨⟨j + 1, by omega, by go_num, HB6, HO6⟩, by simp [intOf]; omega⟩
          · obtain rfl : n2 = j := by omega
            have hOS : wr.ownsRow V0.heap.size 39 2 u8 (S 2).length (mcn (S 2)) := by rw [HST.out]; exact HO.out
            obtain ⟨ao8, cap8, hu8, _⟩ := own_slice hOS
            subst hu8
            have hI2 := inv_step2 HI.out (by omega) HB.out hOS
            have HI2 := hid hI2
            obtain ⟨⟨b0, b1, b2, hPb, _⟩, _⟩ := HI.out
            have hPb2 := blk_below hPb HB.out
            have pc := blk_cell hPb2 2
            have pf := blk_frozen hPb2 2
            have hmc : ((S 2).length : Int) ≤ n2 := by omega
            have HG3 : Hid (G + ((n2 : Int) - (S 2).length) = gc Q S 3) := by rw [HG.out, HN2.out]; rfl
            clear hOS hI2 hPb hPb2
            generalize (S 2).length = m at *
            go_wp2_with fail
            exact ⟨⟨3, 3, G + ((n2 : Int) - m), by omega, rfl, by go_num, by go_num, HG3, HI2⟩, by simp [intOf]⟩
def cutQ21 (env : Int) (Q : Nat → List Ms) : Nat → List Ms := fun j => stF (g21 env ((j : Nat) + 1)) (Q j)
set_option maxRecDepth 100000 in
set_option maxHeartbeats 6400000 in
theorem cut21 {w : World} {base P : Nat} {Q : Nat → List Ms} (h : Pt w base P Q) (q : Nat) (env : Int) (hq : w.heap[q]? = some (.cells #[i64 env] 3)) :
    Calls Try.prog 19 #[pq P, .func (.func 21) #[] #[pq q]] w fun e w' => e = .returned (i64 (gc Q (cutQ21 env Q) 3)) ∧ Far w w' base P (cutQ21 env Q) ∧ Tq w.heap.size P w w' := by
  have hPl := h.lt
  have hlo := h.lo
  have hle := h.le
  obtain ⟨S, hS⟩ : ∃ S, S = cutQ21 env Q := ⟨_, rfl⟩
  rw [← hS]
  have hSl : ∀ j, (S j).length ≤ (Q j).length := fun j => by rw [hS]; exact stK_le _ _ _
  have HGB : Hid (∀ k, 0 ≤ gc Q S k ∧ gc Q S k ≤ 4 * k) := gc_bd Q S hSl hle
  have HSL := hid hSl
  have HLE := hid hle
  have HSE := hid hS
  obtain ⟨a0, a1, a2, hP, hO⟩ := h.blk
  have HI0 : Hid (Inv w base P Q S a0 a1 a2 0 w) := ⟨⟨a0, a1, a2, hP, hO, fun _ => rfl, fun _ => rfl, fun _ => rfl, fun h => absurd h (by omega), fun h => absurd h (by omega), fun h => absurd h (by omega)⟩, Tq.refl _ _ _⟩
  have hqP : q ≠ P := fun e => by rw [e, hP] at hq; simp at hq
  have HQ : Hid (∀ W, Tq w.heap.size P w W → W.heap[q]? = some (.cells #[i64 env] 3)) := fun W hW => by rw [hW.block q (blk_lt hq) hqP]; exact hq
  have HC : Hid (∀ W, W.heap[q]? = some (.cells #[i64 env] 3) → ∀ t a f d, Calls Try.prog 21 #[i64 t, i64 a, .agg #[i64 f, u16v d], pq q] W fun e w' => e = .returned (.bool (g21 env t a (f, d))) ∧ Below W.heap.size W w') := fun W hW t a f d => cl21_ok W q env t a f d hW
  have p0 : w.cell? ⟨P, 0, none⟩ = some a0 := blk_cell hP 0
  have p1 : w.cell? ⟨P, 1, none⟩ = some a1 := blk_cell hP 1
  have p2 : w.cell? ⟨P, 2, none⟩ = some a2 := blk_cell hP 2
  obtain ⟨ao0, cap0, e0, _⟩ := own_slice hO.o0
  obtain ⟨ao1, cap1, e1, _⟩ := own_slice hO.o1
  obtain ⟨ao2, cap2, e2, _⟩ := own_slice hO.o2
  obtain ⟨n0, hn0⟩ : ∃ n, n = (Q 0).length := ⟨_, rfl⟩
  obtain ⟨n1, hn1⟩ : ∃ n, n = (Q 1).length := ⟨_, rfl⟩
  obtain ⟨n2, hn2⟩ : ∃ n, n = (Q 2).length := ⟨_, rfl⟩
  rw [← hn0] at e0
  rw [← hn1] at e1
  rw [← hn2] at e2
  subst e0 e1 e2
  have hl0 := hle 0
  have hl1 := hle 1
  have hl2 := hle 2
  rw [← hn0] at hl0
  rw [← hn1] at hl1
  rw [← hn2] at hl2
  have HN0 := hid hn0
  have HN1 := hid hn1
  have HN2 := hid hn2
  clear h hO hP hq hS hn0 hn1 hn2 hSl hle hqP
  go_enter Try.func19, Try.ntmps19
  go_wp2_with fail
  clear p0 p1 p2
  go_loopw [5, 17] (fun x u wr => ∃ (k : Nat) (z G : Int), k ≤ 3 ∧ z = k ∧ u = i64 z ∧ x = i64 G ∧ Hid (G = gc Q S k) ∧ Hid (Inv w base P Q S (.slice ao0 n0 cap0) (.slice ao1 n1 cap1) (.slice ao2 n2 cap2) k wr)) (fun _ u _ => 3 - (intOf u).toNat)
  case atStart => exact ⟨0, 0, 0, by omega, rfl, rfl, rfl, hid rfl, HI0⟩
  case round =>
    obtain ⟨k, z, G, hk, hz, rfl, rfl, HG, HI⟩ := hrel
    have hGb := HGB.out k
    rw [← HG.out] at hGb
    obtain ⟨hG0, hG1⟩ := hGb
    by_cases hk3 : k = 3
    · subst hk3
      obtain rfl : z = 3 := by omega
      have HF : Hid (Far w wr base P S ∧ Tq w.heap.size P w wr) := ⟨HI.out.far hlo (fun i => Nat.le_trans (HSL.out i) (HLE.out i)), HI.out.tq⟩
      clear hz hk hG0 hG1
      go_wp2_with fail
      go_ret
      exact ⟨by rw [← HG.out]; rfl, HF.out⟩
    · have hk' : k = 0 ∨ k = 1 ∨ k = 2 := by omega
      clear hk hk3
      rcases hk' with rfl | rfl | rfl
      · obtain rfl : z = 0 := by omega
        clear hz
        have hG2 : G ≤ 12 := by omega
        clear hG1
        obtain ⟨⟨b0, b1, b2, hPb, hO, h0, h1, h2, _⟩, htq⟩ := HI.out
        obtain rfl := h0 (by omega)
        have hrow := hO.o0
        rw [show mix 0 Q S 0 = Q 0 by simp [mix], ← HN0.out] at hrow
        have HR := hid hrow
        have HTq := hid htq
        have hmS : (S 0).length ≤ n0 := by rw [HN0.out]; exact HSL.out 0
        have HST : Hid (S 0 = stK (g21 env 1) (Q 0) n0) := by rw [HSE.out, HN0.out]; rfl
        have hV0s := htq.size
        clear hPb hO h0 h1 h2 hrow htq
        generalize wr = V0 at *
        have ix : ∀ w, (Instr.index 52 (.agg #[.slice ao0 n0 cap0, .slice ao1 n1 cap1, .slice ao2 n2 cap2]) (.int .i64 0)).run Try.prog w = .ok (.slice ao0 n0 cap0) w := fun w => pidx0 _ _ _ w
        have hnI : (n0 : Int) ≤ 4 := by omega
        go_wp2_with fail
        clear ix
        go_loopw [8, 23] (fun v u wr => ∃ (j : Nat), j ≤ n0 ∧ u = i64 j ∧ Hid (Below V0.heap.size V0 wr) ∧ Hid (wr.ownsRow V0.heap.size 39 2 v (stK (g21 env 1) (Q 0) j).length (mcn (stK (g21 env 1) (Q 0) j)))) (fun _ u _ => n0 - (intOf u).toNat)
        case atStart => exact ⟨0, by omega, rfl, hid (Below.refl _ _), hid (World.ownsRow_nil V0 _ 39 2)⟩
        case round =>
          obtain ⟨j, hj, rfl, HB, HO⟩ := hrel
          by_cases hlt : j < n0
          · obtain ⟨⟨f, d⟩, hm⟩ : ∃ m, (Q 0)[j]? = some m := ⟨_, List.getElem?_eq_getElem (by rw [← HN0.out]; exact hlt)⟩
            have hjI : (j : Int) < n0 := by omega
            have HM := hid hm
            have hrw : wr.ownsRow base 39 2 (.slice ao0 n0 cap0) n0 (mcn (Q 0)) := own_keep HR.out (fun k C hC => blk_below hC HB.out)
            rcases hrw.2 with ⟨_, hnil⟩ | ⟨g, cap', cur, hv, hbg, hgg, _⟩
            · exfalso; omega
            · simp only [Value.slice.injEq] at hv
              obtain ⟨rfl, _, rfl⟩ := hv
              have cg := mcn_get (Q 0) j (f, d) hm
              have cG0 : wr.cell? ⟨g, j * 2, none⟩ = some (i64 f) := by rw [hrw.cellAt (j * 2) (by omega)]; exact cg.1
              have cG1 : wr.cell? ⟨g, j * 2 + 1, none⟩ = some (u16v d) := by rw [hrw.cellAt (j * 2 + 1) (by omega)]; exact cg.2
              have hqr := HQ.out wr (HTq.out.trans (Tq.of_below (HB.out.mono HTq.out.size)))
              have HQR := hid hqr
              clear hrw cg hm hbg hgg hqr
              have HLk := hid (stK_le (g21 env 1) (Q 0) j)
              cases hg : g21 env 1 (j : Nat) (f, d) with
              | true =>
                have HOk : Hid (stK (g21 env 1) (Q 0) (j + 1) = stK (g21 env 1) (Q 0) j) := stK_go HM.out hg
                have HCg : Hid (∀ W, W.heap[q]? = some (.cells #[i64 env] 3) → Calls Try.prog 21 #[i64 1, i64 (j : Nat), .agg #[i64 f, u16v d], pq q] W fun e w' => e = .returned (.bool true) ∧ Below W.heap.size W w') := fun W hW => by have := HC.out W hW 1 (j : Nat) f d; rw [hg] at this; exact this
                clear hg
                go_wp2_with fail
                refine (HCg.out _ (blk_below HQR.out (boxed_below wr (f, d)))).mono ?_
                rintro e w5 ⟨rfl, hb5⟩
                have hbw : Below wr.heap.size wr w5 := (boxed_below wr (f, d)).trans (hb5.mono (boxed_below wr (f, d)).size)
                have HB5 : Hid (Below V0.heap.size V0 w5) := HB.out.trans (hbw.mono HB.out.size)
                have HO5 : Hid (w5.ownsRow V0.heap.size 39 2 u8 (stK (g21 env 1) (Q 0) (j + 1)).length (mcn (stK (g21 env 1) (Q 0) (j + 1)))) := by rw [HOk.out]; exact own_keep HO.out (fun k C hC => blk_below hC hbw)
                clear hb5 hbw
                go_wp2_with fail
                exact ⟨⟨j + 1, by omega, by go_num, HB5, HO5⟩, by simp [intOf]; omega⟩
              | false =>
                have HOk : Hid (stK (g21 env 1) (Q 0) (j + 1) = stK (g21 env 1) (Q 0) j ++ [(f, d)]) := stK_stay HM.out hg
                have HCg : Hid (∀ W, W.heap[q]? = some (.cells #[i64 env] 3) → Calls Try.prog 21 #[i64 1, i64 (j : Nat), .agg #[i64 f, u16v d], pq q] W fun e w' => e = .returned (.bool false) ∧ Below W.heap.size W w') := fun W hW => by have := HC.out W hW 1 (j : Nat) f d; rw [hg] at this; exact this
                clear hg
                obtain ⟨ao8, cap8, hu8, _⟩ := own_slice HO.out
                subst hu8
                go_wp2_with fail
                refine (HCg.out _ (blk_below HQR.out (boxed_below wr (f, d)))).mono ?_
                rintro e w5 ⟨rfl, hb5⟩
                have hbw : Below wr.heap.size wr w5 := (boxed_below wr (f, d)).trans (hb5.mono (boxed_below wr (f, d)).size)
                have hbx : w5.heap[wr.heap.size]? = some (msO (f, d)) := blk_below (boxed_at wr (f, d)) hb5
                have x0 : w5.cell? ⟨wr.heap.size, 0, none⟩ = some (i64 f) := blk_cell hbx 0
                have x1 : w5.cell? ⟨wr.heap.size, 1, none⟩ = some (u16v d) := blk_cell hbx 1
                have hB5 : Below V0.heap.size V0 w5 := HB.out.trans (hbw.mono HB.out.size)
                have hO5 : w5.ownsRow V0.heap.size 39 2 (.slice ao8 (stK (g21 env 1) (Q 0) j).length cap8) (stK (g21 env 1) (Q 0) j).length (mcn (stK (g21 env 1) (Q 0) j)) := own_keep HO.out (fun k C hC => blk_below hC hbw)
                obtain ⟨ao9, cap9, w6, hrun, hown, hfr, _⟩ := app_far (te := 39) under51 info39x rfl (by omega) (by omega) hO5 [i64 f, u16v d] rfl (msl_one (f, d)) (by have := HLk.out; omega) hB5.size
                have HB6 : Hid (Below V0.heap.size V0 w6) := hB5.trans hfr.below
                have HO6 : Hid (w6.ownsRow V0.heap.size 39 2 (.slice ao9 ((stK (g21 env 1) (Q 0) j).length + 1) cap9) (stK (g21 env 1) (Q 0) (j + 1)).length (mcn (stK (g21 env 1) (Q 0) (j + 1)))) := by rw [HOk.out, List.length_append, mcn_app]; exact hown
                have HRUN := hid hrun
                clear hb5 hbw hbx hB5 hO5 hrun hown hfr
                generalize (stK (g21 env 1) (Q 0) j).length = n at *
                go_wp2_with (at_builtin; refine wpList_app_run rfl (.tmp 35) (.tmp 37) 51 rfl _ _ rfl rfl 51 rfl _ _ HRUN.out ?_)
                exact ⟨⟨j + 1, by omega, by go_num, HB6, HO6⟩, by simp [intOf]; omega⟩
          · obtain rfl : n0 = j := by omega
            have hOS : wr.ownsRow V0.heap.size 39 2 u8 (S 0).length (mcn (S 0)) := by rw [HST.out]; exact HO.out
            obtain ⟨ao8, cap8, hu8, _⟩ := own_slice hOS
            subst hu8
            have hI2 := inv_step0 HI.out (by omega) HB.out hOS
            have HI2 := hid hI2
            obtain ⟨⟨b0, b1, b2, hPb, _⟩, _⟩ := HI.out
            have hPb2 := blk_below hPb HB.out
            have pc := blk_cell hPb2 0
            have pf := blk_frozen hPb2 0
            have hmc : ((S 0).length : Int) ≤ n0 := by omega
            have HG3 : Hid (G + ((n0 : Int) - (S 0).length) = gc Q S 1) := by rw [HG.out, HN0.out]; rfl
            clear hOS hI2 hPb hPb2
            generalize (S 0).length = m at *
            go_wp2_with fail
            exact ⟨⟨1, 1, G + ((n0 : Int) - m), by omega, rfl, by go_num, by go_num, HG3, HI2⟩, by simp [intOf]⟩
      · obtain rfl : z = 1 := by omega
        clear hz
        have hG2 : G ≤ 12 := by omega
        clear hG1
        obtain ⟨⟨b0, b1, b2, hPb, hO, h0, h1, h2, _⟩, htq⟩ := HI.out
        obtain rfl := h1 (by omega)
        have hrow := hO.o1
        rw [show mix 1 Q S 1 = Q 1 by simp [mix], ← HN1.out] at hrow
        have HR := hid hrow
        have HTq := hid htq
        have hmS : (S 1).length ≤ n1 := by rw [HN1.out]; exact HSL.out 1
        have HST : Hid (S 1 = stK (g21 env 2) (Q 1) n1) := by rw [HSE.out, HN1.out]; rfl
        have hV0s := htq.size
        clear hPb hO h0 h1 h2 hrow htq
        generalize wr = V0 at *
        have ix : ∀ w, (Instr.index 52 (.agg #[.slice ao0 n0 cap0, .slice ao1 n1 cap1, .slice ao2 n2 cap2]) (.int .i64 1)).run Try.prog w = .ok (.slice ao1 n1 cap1) w := fun w => pidx1 _ _ _ w
        have hnI : (n1 : Int) ≤ 4 := by omega
        go_wp2_with fail
        clear ix
        go_loopw [8, 23] (fun v u wr => ∃ (j : Nat), j ≤ n1 ∧ u = i64 j ∧ Hid (Below V0.heap.size V0 wr) ∧ Hid (wr.ownsRow V0.heap.size 39 2 v (stK (g21 env 2) (Q 1) j).length (mcn (stK (g21 env 2) (Q 1) j)))) (fun _ u _ => n1 - (intOf u).toNat)
        case atStart => exact ⟨0, by omega, rfl, hid (Below.refl _ _), hid (World.ownsRow_nil V0 _ 39 2)⟩
        case round =>
          obtain ⟨j, hj, rfl, HB, HO⟩ := hrel
          by_cases hlt : j < n1
          · obtain ⟨⟨f, d⟩, hm⟩ : ∃ m, (Q 1)[j]? = some m := ⟨_, List.getElem?_eq_getElem (by rw [← HN1.out]; exact hlt)⟩
            have hjI : (j : Int) < n1 := by omega
            have HM := hid hm
            have hrw : wr.ownsRow base 39 2 (.slice ao1 n1 cap1) n1 (mcn (Q 1)) := own_keep HR.out (fun k C hC => blk_below hC HB.out)
            rcases hrw.2 with ⟨_, hnil⟩ | ⟨g, cap', cur, hv, hbg, hgg, _⟩
            · exfalso; omega
            · simp only [Value.slice.injEq] at hv
              obtain ⟨rfl, _, rfl⟩ := hv
              have cg := mcn_get (Q 1) j (f, d) hm
              have cG0 : wr.cell? ⟨g, j * 2, none⟩ = some (i64 f) := by rw [hrw.cellAt (j * 2) (by omega)]; exact cg.1
              have cG1 : wr.cell? ⟨g, j * 2 + 1, none⟩ = some (u16v d) := by rw [hrw.cellAt (j * 2 + 1) (by omega)]; exact cg.2
              have hqr := HQ.out wr (HTq.out.trans (Tq.of_below (HB.out.mono HTq.out.size)))
              have HQR := hid hqr
              clear hrw cg hm hbg hgg hqr
              have HLk := hid (stK_le (g21 env 2) (Q 1) j)
              cases hg : g21 env 2 (j : Nat) (f, d) with
              | true =>
                have HOk : Hid (stK (g21 env 2) (Q 1) (j + 1) = stK (g21 env 2) (Q 1) j) := stK_go HM.out hg
                have HCg : Hid (∀ W, W.heap[q]? = some (.cells #[i64 env] 3) → Calls Try.prog 21 #[i64 2, i64 (j : Nat), .agg #[i64 f, u16v d], pq q] W fun e w' => e = .returned (.bool true) ∧ Below W.heap.size W w') := fun W hW => by have := HC.out W hW 2 (j : Nat) f d; rw [hg] at this; exact this
                clear hg
                go_wp2_with fail
                refine (HCg.out _ (blk_below HQR.out (boxed_below wr (f, d)))).mono ?_
                rintro e w5 ⟨rfl, hb5⟩
                have hbw : Below wr.heap.size wr w5 := (boxed_below wr (f, d)).trans (hb5.mono (boxed_below wr (f, d)).size)
                have HB5 : Hid (Below V0.heap.size V0 w5) := HB.out.trans (hbw.mono HB.out.size)
                have HO5 : Hid (w5.ownsRow V0.heap.size 39 2 u8 (stK (g21 env 2) (Q 1) (j + 1)).length (mcn (stK (g21 env 2) (Q 1) (j + 1)))) := by rw [HOk.out]; exact own_keep HO.out (fun k C hC => blk_below hC hbw)
                clear hb5 hbw
                go_wp2_with fail
                exact ⟨⟨j + 1, by omega, by go_num, HB5, HO5⟩, by simp [intOf]; omega⟩
              | false =>
                have HOk : Hid (stK (g21 env 2) (Q 1) (j + 1) = stK (g21 env 2) (Q 1) j ++ [(f, d)]) := stK_stay HM.out hg
                have HCg : Hid (∀ W, W.heap[q]? = some (.cells #[i64 env] 3) → Calls Try.prog 21 #[i64 2, i64 (j : Nat), .agg #[i64 f, u16v d], pq q] W fun e w' => e = .returned (.bool false) ∧ Below W.heap.size W w') := fun W hW => by have := HC.out W hW 2 (j : Nat) f d; rw [hg] at this; exact this
                clear hg
                obtain ⟨ao8, cap8, hu8, _⟩ := own_slice HO.out
                subst hu8
                go_wp2_with fail
                refine (HCg.out _ (blk_below HQR.out (boxed_below wr (f, d)))).mono ?_
                rintro e w5 ⟨rfl, hb5⟩
                have hbw : Below wr.heap.size wr w5 := (boxed_below wr (f, d)).trans (hb5.mono (boxed_below wr (f, d)).size)
                have hbx : w5.heap[wr.heap.size]? = some (msO (f, d)) := blk_below (boxed_at wr (f, d)) hb5
                have x0 : w5.cell? ⟨wr.heap.size, 0, none⟩ = some (i64 f) := blk_cell hbx 0
                have x1 : w5.cell? ⟨wr.heap.size, 1, none⟩ = some (u16v d) := blk_cell hbx 1
                have hB5 : Below V0.heap.size V0 w5 := HB.out.trans (hbw.mono HB.out.size)
                have hO5 : w5.ownsRow V0.heap.size 39 2 (.slice ao8 (stK (g21 env 2) (Q 1) j).length cap8) (stK (g21 env 2) (Q 1) j).length (mcn (stK (g21 env 2) (Q 1) j)) := own_keep HO.out (fun k C hC => blk_below hC hbw)
                obtain ⟨ao9, cap9, w6, hrun, hown, hfr, _⟩ := app_far (te := 39) under51 info39x rfl (by omega) (by omega) hO5 [i64 f, u16v d] rfl (msl_one (f, d)) (by have := HLk.out; omega) hB5.size
                have HB6 : Hid (Below V0.heap.size V0 w6) := hB5.trans hfr.below
                have HO6 : Hid (w6.ownsRow V0.heap.size 39 2 (.slice ao9 ((stK (g21 env 2) (Q 1) j).length + 1) cap9) (stK (g21 env 2) (Q 1) (j + 1)).length (mcn (stK (g21 env 2) (Q 1) (j + 1)))) := by rw [HOk.out, List.length_append, mcn_app]; exact hown
                have HRUN := hid hrun
                clear hb5 hbw hbx hB5 hO5 hrun hown hfr
                generalize (stK (g21 env 2) (Q 1) j).length = n at *
                go_wp2_with (at_builtin; refine wpList_app_run rfl (.tmp 35) (.tmp 37) 51 rfl _ _ rfl rfl 51 rfl _ _ HRUN.out ?_)
                exact ⟨⟨j + 1, by omega, by go_num, HB6, HO6⟩, by simp [intOf]; omega⟩
          · obtain rfl : n1 = j := by omega
            have hOS : wr.ownsRow V0.heap.size 39 2 u8 (S 1).length (mcn (S 1)) := by rw [HST.out]; exact HO.out
            obtain ⟨ao8, cap8, hu8, _⟩ := own_slice hOS
            subst hu8
            have hI2 := inv_step1 HI.out (by omega) HB.out hOS
            have HI2 := hid hI2
            obtain ⟨⟨b0, b1, b2, hPb, _⟩, _⟩ := HI.out
            have hPb2 := blk_below hPb HB.out
            have pc := blk_cell hPb2 1
            have pf := blk_frozen hPb2 1
            have hmc : ((S 1).length : Int) ≤ n1 := by omega
            have HG3 : Hid (G + ((n1 : Int) - (S 1).length) = gc Q S 2) := by rw [HG.out, HN1.out]; rfl
            clear hOS hI2 hPb hPb2
            generalize (S 1).length = m at *
            go_wp2_with fail
            exact ⟨⟨2, 2, G + ((n1 : Int) - m), by omega, rfl, by go_num, by go_num, HG3, HI2⟩, by simp [intOf]⟩
      · obtain rfl : z = 2 := by omega
        clear hz
        have hG2 : G ≤ 12 := by omega
        clear hG1
        obtain ⟨⟨b0, b1, b2, hPb, hO, h0, h1, h2, _⟩, htq⟩ := HI.out
        obtain rfl := h2 (by omega)
        have hrow := hO.o2
        rw [show mix 2 Q S 2 = Q 2 by simp [mix], ← HN2.out] at hrow
        have HR := hid hrow
        have HTq := hid htq
        have hmS : (S 2).length ≤ n2 := by rw [HN2.out]; exact HSL.out 2
        have HST : Hid (S 2 = stK (g21 env 3) (Q 2) n2) := by rw [HSE.out, HN2.out]; rfl
        have hV0s := htq.size
        clear hPb hO h0 h1 h2 hrow htq
        generalize wr = V0 at *
        have ix : ∀ w, (Instr.index 52 (.agg #[.slice ao0 n0 cap0, .slice ao1 n1 cap1, .slice ao2 n2 cap2]) (.int .i64 2)).run Try.prog w = .ok (.slice ao2 n2 cap2) w := fun w => pidx2 _ _ _ w
        have hnI : (n2 : Int) ≤ 4 := by omega
        go_wp2_with fail
        clear ix
        go_loopw [8, 23] (fun v u wr => ∃ (j : Nat), j ≤ n2 ∧ u = i64 j ∧ Hid (Below V0.heap.size V0 wr) ∧ Hid (wr.ownsRow V0.heap.size 39 2 v (stK (g21 env 3) (Q 2) j).length (mcn (stK (g21 env 3) (Q 2) j)))) (fun _ u _ => n2 - (intOf u).toNat)
        case atStart => exact ⟨0, by omega, rfl, hid (Below.refl _ _), hid (World.ownsRow_nil V0 _ 39 2)⟩
        case round =>
          obtain ⟨j, hj, rfl, HB, HO⟩ := hrel
          by_cases hlt : j < n2
          · obtain ⟨⟨f, d⟩, hm⟩ : ∃ m, (Q 2)[j]? = some m := ⟨_, List.getElem?_eq_getElem (by rw [← HN2.out]; exact hlt)⟩
            have hjI : (j : Int) < n2 := by omega
            have HM := hid hm
            have hrw : wr.ownsRow base 39 2 (.slice ao2 n2 cap2) n2 (mcn (Q 2)) := own_keep HR.out (fun k C hC => blk_below hC HB.out)
            rcases hrw.2 with ⟨_, hnil⟩ | ⟨g, cap', cur, hv, hbg, hgg, _⟩
            · exfalso; omega
            · simp only [Value.slice.injEq] at hv
              obtain ⟨rfl, _, rfl⟩ := hv
              have cg := mcn_get (Q 2) j (f, d) hm
              have cG0 : wr.cell? ⟨g, j * 2, none⟩ = some (i64 f) := by rw [hrw.cellAt (j * 2) (by omega)]; exact cg.1
              have cG1 : wr.cell? ⟨g, j * 2 + 1, none⟩ = some (u16v d) := by rw [hrw.cellAt (j * 2 + 1) (by omega)]; exact cg.2
              have hqr := HQ.out wr (HTq.out.trans (Tq.of_below (HB.out.mono HTq.out.size)))
              have HQR := hid hqr
              clear hrw cg hm hbg hgg hqr
              have HLk := hid (stK_le (g21 env 3) (Q 2) j)
              cases hg : g21 env 3 (j : Nat) (f, d) with
              | true =>
                have HOk : Hid (stK (g21 env 3) (Q 2) (j + 1) = stK (g21 env 3) (Q 2) j) := stK_go HM.out hg
                have HCg : Hid (∀ W, W.heap[q]? = some (.cells #[i64 env] 3) → Calls Try.prog 21 #[i64 3, i64 (j : Nat), .agg #[i64 f, u16v d], pq q] W fun e w' => e = .returned (.bool true) ∧ Below W.heap.size W w') := fun W hW => by have := HC.out W hW 3 (j : Nat) f d; rw [hg] at this; exact this
                clear hg
                go_wp2_with fail
                refine (HCg.out _ (blk_below HQR.out (boxed_below wr (f, d)))).mono ?_
                rintro e w5 ⟨rfl, hb5⟩
                have hbw : Below wr.heap.size wr w5 := (boxed_below wr (f, d)).trans (hb5.mono (boxed_below wr (f, d)).size)
                have HB5 : Hid (Below V0.heap.size V0 w5) := HB.out.trans (hbw.mono HB.out.size)
                have HO5 : Hid (w5.ownsRow V0.heap.size 39 2 u8 (stK (g21 env 3) (Q 2) (j + 1)).length (mcn (stK (g21 env 3) (Q 2) (j + 1)))) := by rw [HOk.out]; exact own_keep HO.out (fun k C hC => blk_below hC hbw)
                clear hb5 hbw
                go_wp2_with fail
                exact ⟨⟨j + 1, by omega, by go_num, HB5, HO5⟩, by simp [intOf]; omega⟩
              | false =>
                have HOk : Hid (stK (g21 env 3) (Q 2) (j + 1) = stK (g21 env 3) (Q 2) j ++ [(f, d)]) := stK_stay HM.out hg
                have HCg : Hid (∀ W, W.heap[q]? = some (.cells #[i64 env] 3) → Calls Try.prog 21 #[i64 3, i64 (j : Nat), .agg #[i64 f, u16v d], pq q] W fun e w' => e = .returned (.bool false) ∧ Below W.heap.size W w') := fun W hW => by have := HC.out W hW 3 (j : Nat) f d; rw [hg] at this; exact this
                clear hg
                obtain ⟨ao8, cap8, hu8, _⟩ := own_slice HO.out
                subst hu8
                go_wp2_with fail
                refine (HCg.out _ (blk_below HQR.out (boxed_below wr (f, d)))).mono ?_
                rintro e w5 ⟨rfl, hb5⟩
                have hbw : Below wr.heap.size wr w5 := (boxed_below wr (f, d)).trans (hb5.mono (boxed_below wr (f, d)).size)
                have hbx : w5.heap[wr.heap.size]? = some (msO (f, d)) := blk_below (boxed_at wr (f, d)) hb5
                have x0 : w5.cell? ⟨wr.heap.size, 0, none⟩ = some (i64 f) := blk_cell hbx 0
                have x1 : w5.cell? ⟨wr.heap.size, 1, none⟩ = some (u16v d) := blk_cell hbx 1
                have hB5 : Below V0.heap.size V0 w5 := HB.out.trans (hbw.mono HB.out.size)
                have hO5 : w5.ownsRow V0.heap.size 39 2 (.slice ao8 (stK (g21 env 3) (Q 2) j).length cap8) (stK (g21 env 3) (Q 2) j).length (mcn (stK (g21 env 3) (Q 2) j)) := own_keep HO.out (fun k C hC => blk_below hC hbw)
                obtain ⟨ao9, cap9, w6, hrun, hown, hfr, _⟩ := app_far (te := 39) under51 info39x rfl (by omega) (by omega) hO5 [i64 f, u16v d] rfl (msl_one (f, d)) (by have := HLk.out; omega) hB5.size
                have HB6 : Hid (Below V0.heap.size V0 w6) := hB5.trans hfr.below
                have HO6 : Hid (w6.ownsRow V0.heap.size 39 2 (.slice ao9 ((stK (g21 env 3) (Q 2) j).length + 1) cap9) (stK (g21 env 3) (Q 2) (j + 1)).length (mcn (stK (g21 env 3) (Q 2) (j + 1)))) := by rw [HOk.out, List.length_append, mcn_app]; exact hown
                have HRUN := hid hrun
                clear hb5 hbw hbx hB5 hO5 hrun hown hfr
                generalize (stK (g21 env 3) (Q 2) j).length = n at *
                go_wp2_with (at_builtin; refine wpList_app_run rfl (.tmp 35) (.tmp 37) 51 rfl _ _ rfl rfl 51 rfl _ _ HRUN.out ?_)
                exact ⟨⟨j + 1, by omega, by go_num, HB6, HO6⟩, by simp [intOf]; omega⟩
          · obtain rfl : n2 = j := by omega
            have hOS : wr.ownsRow V0.heap.size 39 2 u8 (S 2).length (mcn (S 2)) := by rw [HST.out]; exact HO.out
            obtain ⟨ao8, cap8, hu8, _⟩ := own_slice hOS
            subst hu8
            have hI2 := inv_step2 HI.out (by omega) HB.out hOS
            have HI2 := hid hI2
            obtain ⟨⟨b0, b1, b2, hPb, _⟩, _⟩ := HI.out
            have hPb2 := blk_below hPb HB.out
            have pc := blk_cell hPb2 2
            have pf := blk_frozen hPb2 2
            have hmc : ((S 2).length : Int) ≤ n2 := by omega
            have HG3 : Hid (G + ((n2 : Int) - (S 2).length) = gc Q S 3) := by rw [HG.out, HN2.out]; rfl
            clear hOS hI2 hPb hPb2
            generalize (S 2).length = m at *
            go_wp2_with fail
            exact ⟨⟨3, 3, G + ((n2 : Int) - m), by omega, rfl, by go_num, by go_num, HG3, HI2⟩, by simp [intOf]⟩
end Go.Proofs.Ytmijjgpelihhnaa
