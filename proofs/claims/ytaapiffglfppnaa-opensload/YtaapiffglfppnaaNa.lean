/- name: slots that name an object; no statement is proved in this text. -/
import Derived.Test.YtaapiffglfppnaaLo
import Derived.Test.YtaapiffglfppnaaPb
namespace Go.Proofs.Ytaapiffglfppnaa
open Go.ChangeShapes Go.WideShapes Go.ChangeAt Go.RowKit Go.Deep
attribute [local go_sem ↓] Go.wp_at_zero Go.wp_at_succ

/-- A table in which the slots of a list that name an ID have an address. -/
def nmS (i : Int) (a : Nat) (A : Tab) (s : Sl3) : Tab := if s.2.2 == i then upd A (s.1 - 1).toNat s.2.1.toNat (some a) else A
def nmT (A : Tab) (U : List Sl3) (i : Int) (a : Nat) : Tab := U.foldl (nmS i a) A
theorem nmT_last {A : Tab} {U : List Sl3} {k : Nat} {s : Sl3} (h : U[k]? = some s) (i : Int) (a : Nat) : nmT A (U.take (k + 1)) i a = nmS i a (nmT A (U.take k) i a) s := by
  unfold nmT
  rw [takeL h, List.foldl_append]
  rfl
theorem slotB_iff {s : Sl3} : slotB s = true ↔ (1 ≤ s.1 ∧ s.1 ≤ 6) ∧ 0 ≤ s.2.1 ∧ s.2.1 < 6 := by
  unfold slotB
  rw [Bool.and_eq_true, decide_eq_true_eq, decide_eq_true_eq]
def MemN (b : Nat) (s : Sl3) (W : World) : Prop := W.heap[b]? = some (lO s 48)
set_option maxRecDepth 100000 in
set_option maxHeartbeats 3200000 in
theorem name_ok (w : World) (t B : Nat) (A : Tab) (V : Nat → Op4) (x : Op4) (au : Option Addr) (cu : Nat) (U : List Sl3) (h : Tg w t A V) (htB : t < B) (hU : U.length ≤ 100) (hr : ∀ s ∈ U, slotB s = true) (hown : w.ownsRow B 48 3 (.slice au U.length cu) U.length (lcn U)) : Calls Try.prog 52 #[pq t, ov x, .slice au U.length cu] w fun e w' => e = .returned (.tuple #[]) ∧ Tg w' t (nmT A U x.1 w.heap.size) (newV V w.heap.size x) ∧ Touch t w w' := by
  obtain ⟨a0, ha0⟩ : ∃ a0, a0 = w.heap.size := ⟨_, rfl⟩
  have HA0 := hid ha0
  have htl : t < a0 := by rw [ha0]; exact h.lt
  have HT0 : Hid (Tg (w.alloc (oO x 54)) t (nmT A (U.take 0) x.1 a0) (newV V a0 x)) := by
    rw [Hid, ha0]
    exact h.newV (Nat.le_refl _) (below_one w _)
  have HX0 : Hid ((w.alloc (oO x 54)).heap[a0]? = some (oO x 54)) := by rw [Hid, ha0]; exact heap_last w _
  have HO0 := hid (hown.alloc (oO x 54))
  have HTo0 : Hid (Touch t w (w.alloc (oO x 54))) := (Touch.refl t w).alloc _
  have HR := hid hr
  have hcap := own_capK hown
  have HV : Hid (newV V a0 x a0 = x) := newV_eq
  obtain ⟨N, hN⟩ : ∃ N, N = U.length := ⟨_, rfl⟩
  have HN := hid hN
  rw [← hN] at hU hcap HO0 ⊢
  rw [← ha0]
  clear h hr hown hN
  go_enter Try.func52, Try.ntmps52
  go_wp2_with fail
  rw [← ha0]
  clear ha0
  generalize w.alloc (oO x 54) = w1 at *
  go_loopw [10] (fun v wr => ∃ (k : Nat), k ≤ N ∧ v = i64 k ∧ Hid (Tg wr t (nmT A (U.take k) x.1 a0) (newV V a0 x)) ∧ Hid (wr.heap[a0]? = some (oO x 54)) ∧ Hid (wr.ownsRow B 48 3 (.slice au N cu) N (lcn U)) ∧ Hid (Touch t w wr)) (fun v _ => N - (intOf v).toNat)
  case atStart => exact ⟨0, by omega, rfl, HT0, HX0, HO0, HTo0⟩
  case round =>
    obtain ⟨k, hk, rfl, HT, HX, HO, HTo⟩ := hrel
    clear HT0 HX0 HO0 HTo0
    by_cases hlt : k < N
    · have hkI : (k : Int) < N := by omega
      obtain ⟨s, hs⟩ : ∃ s, U[k]? = some s := ⟨_, List.getElem?_eq_getElem (by rw [← HN.out]; exact hlt)⟩
      have hsb := slotB_iff.1 (HR.out s (List.mem_of_getElem? hs))
      have hRd : Rd3 wr au U := Rd3.own (by rw [← HN.out]; exact HO.out)
      obtain ⟨p, q, i⟩ := s
      simp only at hsb
      obtain ⟨u, rfl⟩ : ∃ u : Nat, p = (u : Int) + 1 := ⟨(p - 1).toNat, by omega⟩
      obtain ⟨g, rfl⟩ : ∃ g : Nat, q = (g : Int) := ⟨q.toNat, by omega⟩
      have hu : u < 6 := by omega
      have hg : g < 6 := by omega
      have huI : (u : Int) < 6 := by omega
      have hgI : (g : Int) < 6 := by omega
      obtain ⟨g0, o0, hgo, hgl, c0, c1, c2⟩ := hRd k _ hs
      subst hgo
      have HNX : Hid (nmT A (U.take (k + 1)) x.1 a0 = nmS x.1 a0 (nmT A (U.take k) x.1 a0) ((u : Int) + 1, (g : Int), i)) := nmT_last hs _ _
      have HS : Hid (MemN wr.heap.size ((u : Int) + 1, (g : Int), i) (wr.alloc (lO ((u : Int) + 1, (g : Int), i) 48)).drew) := heap_last wr _
      have HTa := hid (HT.out.alloc (lO ((u : Int) + 1, (g : Int), i) 48))
      have HXa : Hid ((wr.alloc (lO ((u : Int) + 1, (g : Int), i) 48)).heap[a0]? = some (oO x 54)) := blk_alloc HX.out _
      have HOa := hid (HO.out.alloc (lO ((u : Int) + 1, (g : Int), i) 48))
      have HToa : Hid (Touch t w (wr.alloc (lO ((u : Int) + 1, (g : Int), i) 48))) := HTo.out.alloc _
      obtain ⟨x0, _, _, _⟩ := four_cells HX.out
      have hxl := blk_lt HX.out
      clear hs hRd hsb HT HX HO HTo
      by_cases hi : i = x.1
      · have hq : (i == x.1) = true := beq_iff_eq.2 hi
        have HNY : Hid (nmT A (U.take (k + 1)) x.1 a0 = upd (nmT A (U.take k) x.1 a0) u g (some a0)) := by
          rw [Hid, HNX.out]
          unfold nmS
          simp only [hq, if_true]
          rw [show ((u : Int) + 1 - 1).toNat = u by omega, show (g : Int).toNat = g by omega]
        have HC0 : Hid (∃ v, (wr.alloc (lO ((u : Int) + 1, (g : Int), i) 48)).drew.cell? ⟨t, u * 6 + g, none⟩ = some v) := ⟨_, HTa.out.cell u g hu hg⟩
        obtain ⟨vc, hvc⟩ := HC0.out
        have HC0 : Hid ((wr.alloc (lO ((u : Int) + 1, (g : Int), i) 48)).drew.cell? ⟨t, u * 6 + g, none⟩ = some vc) := hvc
        have HF0 : Hid ((wr.alloc (lO ((u : Int) + 1, (g : Int), i) 48)).drew.frozen? ⟨t, u * 6 + g, none⟩ = false) := HTa.out.frz _
        have HTb : Hid (Tg ((wr.alloc (lO ((u : Int) + 1, (g : Int), i) 48)).setCell ⟨t, u * 6 + g, none⟩ (pq a0)).drew t (nmT A (U.take (k + 1)) x.1 a0) (newV V a0 x)) := by
          rw [Hid, HNY.out]
          refine Tg.drew (HTa.out.set u g hu hg (some a0) fun b hb => ?_)
          cases hb
          exact ⟨htl, by rw [HV.out]; exact HXa.out⟩
        have HXb : Hid (((wr.alloc (lO ((u : Int) + 1, (g : Int), i) 48)).setCell ⟨t, u * 6 + g, none⟩ (pq a0)).drew.heap[a0]? = some (oO x 54)) := (Below.heap_setCell _ _ _ _ (show a0 ≠ t by omega)).trans HXa.out
        have HOb : Hid (((wr.alloc (lO ((u : Int) + 1, (g : Int), i) 48)).setCell ⟨t, u * 6 + g, none⟩ (pq a0)).drew.ownsRow B 48 3 (.slice (some ⟨g0, o0, none⟩) N cu) N (lcn U)) := own_keep1 HOa.out fun q hq => Below.heap_setCell _ _ _ _ (by have := (HOa.out.lt q hq).1; show q ≠ t; omega)
        have HTob : Hid (Touch t w ((wr.alloc (lO ((u : Int) + 1, (g : Int), i) 48)).setCell ⟨t, u * 6 + g, none⟩ (pq a0)).drew) := (HToa.out.setCell rfl _).drew
        have hwu : IntKind.i64.wrap ((u : Int) + 1 - 1) = (u : Int) := by rw [wrap_id (by omega) (by omega)]; omega
        clear hi hvc HNX HNY HTa HXa HOa HToa
        go_upto_region 5 with fail
        refine wp_region_noPanic ?_
        refine wp_region_last (MemN wr.heap.size ((u : Int) + 1, (g : Int), i)) 10 (by kernel_rfl) ?_
        refine wpL_take 0 19 (pq t) [] rfl rfl (by kernel_rfl) (by decide) (by kernel_rfl) (by kernel_rfl) (by kernel_rfl) (fun _ _ _ h => h) HS.out (by rfl) (fun W hW => by have hW0 : W.heap[wr.heap.size]? = some (lO ((u : Int) + 1, (g : Int), i) 48) := hW; obtain ⟨z0, z1, z2⟩ := three_cells hW0; go_simp) ?_
        simp only [Act.put, List.setIfInBounds_toArray, List.set_cons_zero, List.set_cons_succ]
        refine wpL_take 1 20 (.pointer (some ⟨wr.heap.size, 0, none⟩)) [] rfl rfl (by kernel_rfl) (by decide) (by kernel_rfl) (by kernel_rfl) (by kernel_rfl) (fun _ _ _ h => h) HS.out (by rfl) (fun W hW => by have hW0 : W.heap[wr.heap.size]? = some (lO ((u : Int) + 1, (g : Int), i) 48) := hW; obtain ⟨z0, z1, z2⟩ := three_cells hW0; go_simp) ?_
        simp only [Act.put, List.setIfInBounds_toArray, List.set_cons_zero, List.set_cons_succ]
        refine wpL_take 2 21 (i64 ((u : Int) + 1)) [] rfl rfl (by kernel_rfl) (by decide) (by kernel_rfl) (by kernel_rfl) (by kernel_rfl) (fun _ _ _ h => h) HS.out (by rfl) (fun W hW => by have hW0 : W.heap[wr.heap.size]? = some (lO ((u : Int) + 1, (g : Int), i) 48) := hW; obtain ⟨z0, z1, z2⟩ := three_cells hW0; go_simp) ?_
        simp only [Act.put, List.setIfInBounds_toArray, List.set_cons_zero, List.set_cons_succ]
        refine wpL_take 3 22 (i64 (u : Int)) [] rfl rfl (by kernel_rfl) (by decide) (by kernel_rfl) (by kernel_rfl) (by kernel_rfl) (fun _ _ _ h => h) HS.out (by rfl) (fun W hW => by have hW0 : W.heap[wr.heap.size]? = some (lO ((u : Int) + 1, (g : Int), i) 48) := hW; obtain ⟨z0, z1, z2⟩ := three_cells hW0; go_simp; exact wrap_id (by omega) (by omega)) ?_
        simp only [Act.put, List.setIfInBounds_toArray, List.set_cons_zero, List.set_cons_succ]
        refine wpL_take 4 23 (.pointer (some ⟨wr.heap.size, 1, none⟩)) [] rfl rfl (by kernel_rfl) (by decide) (by kernel_rfl) (by kernel_rfl) (by kernel_rfl) (fun _ _ _ h => h) HS.out (by rfl) (fun W hW => by have hW0 : W.heap[wr.heap.size]? = some (lO ((u : Int) + 1, (g : Int), i) 48) := hW; obtain ⟨z0, z1, z2⟩ := three_cells hW0; go_simp) ?_
        simp only [Act.put, List.setIfInBounds_toArray, List.set_cons_zero, List.set_cons_succ]
        refine wpL_take 5 24 (i64 (g : Int)) [] rfl rfl (by kernel_rfl) (by decide) (by kernel_rfl) (by kernel_rfl) (by kernel_rfl) (fun _ _ _ h => h) HS.out (by rfl) (fun W hW => by have hW0 : W.heap[wr.heap.size]? = some (lO ((u : Int) + 1, (g : Int), i) 48) := hW; obtain ⟨z0, z1, z2⟩ := three_cells hW0; go_simp) ?_
        simp only [Act.put, List.setIfInBounds_toArray, List.set_cons_zero, List.set_cons_succ]
        refine wpL_take 6 25 (pq t) [7, 8, 9] rfl rfl (by kernel_rfl) (by decide) (by kernel_rfl) (by kernel_rfl) (by kernel_rfl) (fun _ _ _ h => h) HS.out (by rfl) (fun W hW => by have hW0 : W.heap[wr.heap.size]? = some (lO ((u : Int) + 1, (g : Int), i) 48) := hW; obtain ⟨z0, z1, z2⟩ := three_cells hW0; go_simp) ?_
        simp only [Act.put, List.setIfInBounds_toArray, List.set_cons_zero, List.set_cons_succ]
        refine wpL_take 7 26 (pq t) [8, 9] rfl rfl (by kernel_rfl) (by decide) (by kernel_rfl) (by kernel_rfl) (by kernel_rfl) (fun _ _ _ h => h) HS.out (by rfl) (fun W hW => by have hW0 : W.heap[wr.heap.size]? = some (lO ((u : Int) + 1, (g : Int), i) 48) := hW; obtain ⟨z0, z1, z2⟩ := three_cells hW0; go_simp) ?_
        simp only [Act.put, List.setIfInBounds_toArray, List.set_cons_zero, List.set_cons_succ]
        refine wpL_take 8 27 (.pointer (some ⟨t, u * 6, none⟩)) [9] rfl rfl (by kernel_rfl) (by decide) (by kernel_rfl) (by kernel_rfl) (by kernel_rfl) (fun _ _ _ h => h) HS.out (by rfl) (fun W hW => by have hW0 : W.heap[wr.heap.size]? = some (lO ((u : Int) + 1, (g : Int), i) 48) := hW; obtain ⟨z0, z1, z2⟩ := three_cells hW0; go_simp) ?_
        simp only [Act.put, List.setIfInBounds_toArray, List.set_cons_zero, List.set_cons_succ]
        refine wpL_take 9 28 (.pointer (some ⟨t, u * 6 + g, none⟩)) [] rfl rfl (by kernel_rfl) (by decide) (by kernel_rfl) (by kernel_rfl) (by kernel_rfl) (fun _ _ _ h => h) HS.out (by rfl) (fun W hW => by have hW0 : W.heap[wr.heap.size]? = some (lO ((u : Int) + 1, (g : Int), i) 48) := hW; obtain ⟨z0, z1, z2⟩ := three_cells hW0; go_simp) ?_
        simp only [Act.put, List.setIfInBounds_toArray, List.set_cons_zero, List.set_cons_succ]
        refine wpL_one 10 rfl (by kernel_rfl) (by rfl) (fun K hK => ?_)
        have r0 := HC0.out
        have rf := HF0.out
        go_simp
        refine hK.out _ _ (fun h => absurd rfl h) ?_
        clear hK K r0 rf
        refine wpL_done (by kernel_rfl) ?_
        refine NoPanic.normal ?_
        generalize ((wr.alloc (lO ((u : Int) + 1, (g : Int), i) 48)).setCell ⟨t, u * 6 + g, none⟩ (pq a0)).drew = U7 at *
        clear HS HC0 HF0
        go_wp2_with fail
        exact ⟨⟨k + 1, by omega, by go_num, HTb, HXb, HOb, HTob⟩, by simp [intOf]; omega⟩
      · have hq : (i == x.1) = false := beq_false_of_ne hi
        have HTb : Hid (Tg (wr.alloc (lO ((u : Int) + 1, (g : Int), i) 48)) t (nmT A (U.take (k + 1)) x.1 a0) (newV V a0 x)) := by
          rw [Hid, HNX.out]
          unfold nmS
          simp only [hq]
          exact HTa.out
        clear hi HNX HTa HS
        go_wp2_with fail
        exact ⟨⟨k + 1, by omega, by go_num, HTb, HXa, HOa, HToa⟩, by simp [intOf]; omega⟩
    · have hE : U.take k = U := List.take_of_length_le (by rw [← HN.out]; omega)
      rw [hE] at HT
      clear hE
      go_wp2_with fail
      go_end0
      exact ⟨rfl, HT.out, HTo.out⟩
end Go.Proofs.Ytaapiffglfppnaa
