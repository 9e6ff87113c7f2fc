/- Load; no statement is proved in this text. -/
import Derived.Test.YtojhmiggocommaaSp
namespace Go.Proofs.Ytojhmiggocommaa
open Go.ChangeShapes Go.WideShapes Go.ChangeAt Go.RowKit Go.Deep
attribute [local go_sem ↓] Go.wp_at_zero Go.wp_at_succ

/-- A slice of pairs that reads as a list, from a place on. -/
def Rd3 (w : World) (ao : Option Addr) (X : List In) : Prop := ∀ i p, X[i]? = some p → ∃ g off, ao = some ⟨g, off, none⟩ ∧ g < w.heap.size ∧ w.cell? ⟨g, off + i * 2, none⟩ = some (i64 p.1) ∧ w.cell? ⟨g, off + i * 2 + 1, none⟩ = some (str p.2)
theorem Rd3.below {w w' : World} {ao : Option Addr} {X : List In} (h : Rd3 w ao X) (hb : Below w.heap.size w w') : Rd3 w' ao X := fun i p hp => by
  obtain ⟨g, off, h1, h2, h3, h4⟩ := h i p hp
  exact ⟨g, off, h1, Nat.lt_of_lt_of_le h2 hb.size, by rw [hb.cell (by exact h2)]; exact h3, by rw [hb.cell (by exact h2)]; exact h4⟩
theorem Rd2.rd3 {w : World} {ao : Option Addr} {X : List In} (h : Rd2 w ao X) : Rd3 w ao X := fun i p hp => by
  obtain ⟨g, h1, h2, h3, h4⟩ := h i p hp
  exact ⟨g, 0, h1, h2, by rw [Nat.zero_add]; exact h3, by rw [Nat.zero_add]; exact h4⟩
/-- One more pipe is loaded. -/
def put1 (S : St) (p : In) : Option St := if (0 ≤ p.1 ∧ p.1 < 3) ∧ S p.1.toNat = none ∧ p.2.length ≤ 16 then some (upd S p.1.toNat (some p.2)) else none
def loadF : List In → St → Option St
  | [], S => some S
  | p :: r, S => match put1 S p with
    | none => none
    | some T => loadF r T
theorem upd_upd (S : St) (i : Nat) (x y : Option (List UInt8)) : upd (upd S i x) i y = upd S i y := by
  funext j
  unfold upd
  by_cases h : j = i <;> simp [h]
def LdA (w : World) (b : Nat) (R : Option St) (e : Ending) (w' : World) : Prop := (R = none ∧ e = .returned (.tuple #[.pointer none, i64 4]) ∧ Below b w w') ∨ ∃ S, R = some S ∧ e = .returned (.tuple #[pq b, i64 0]) ∧ PS w' b b S ∧ Below b w w'
theorem load_step (X : List In) (k : Nat) (p : In) (h : X[k]? = some p) (S : St) : loadF (X.drop k) S = match put1 S p with | none => none | some T => loadF (X.drop (k + 1)) T := by
  have hk : k < X.length := (List.getElem?_eq_some_iff.1 h).1
  rw [List.drop_eq_getElem_cons hk]
  rw [List.getElem?_eq_getElem hk] at h
  cases h
  rfl
set_option maxRecDepth 100000 in
set_option maxHeartbeats 12800000 in
theorem load_ok (w : World) (ao : Option Addr) (cap : Nat) (Y : List In) (hY : Y.length ≤ 1000) (h1 : Rd3 w ao Y) : Calls Try.prog 17 #[.slice ao Y.length cap] w fun e w' => LdA w w.heap.size (loadF Y noSt) e w' := by
  have H1 := hid h1
  obtain ⟨n, hn⟩ : ∃ n, n = Y.length := ⟨_, rfl⟩
  have HN := hid hn
  rw [← hn] at hY ⊢
  have hnI : (n : Int) ≤ 1000 := by omega
  obtain ⟨R, hR⟩ : ∃ R, R = loadF Y noSt := ⟨_, rfl⟩
  have HR := hid hR
  rw [← hR]
  have HNw := hid (new_ok w)
  obtain ⟨b, hb⟩ : ∃ b, b = w.heap.size := ⟨_, rfl⟩
  have HB := hid hb
  rw [← hb] at HNw ⊢
  clear h1 hn hR hb
  go_enter Try.func17, Try.ntmps17
  go_wp2_with fail
  refine HNw.out.mono ?_
  rintro e w1 ⟨rfl, hp1, hb1⟩
  have HP1 := hid hp1
  have HB1 : Hid (Below b w w1) := hb1
  clear hp1 hb1 HNw
  go_wp2_with fail
  go_loopw [10] (fun u wr => ∃ (k : Nat) (S : St), k ≤ n ∧ u = i64 k ∧ Hid (R = loadF (Y.drop k) S) ∧ Hid (PS wr b b S) ∧ Hid (Below b w wr)) (fun u _ => n - (intOf u).toNat)
  case atStart => exact ⟨0, noSt, by omega, rfl, HR, HP1, HB1⟩
  case round =>
    obtain ⟨k, S, hk, rfl, HRk, HP, HBw⟩ := hrel
    by_cases hlt : k < n
    · obtain ⟨p, hp⟩ : ∃ p, Y[k]? = some p := ⟨_, List.getElem?_eq_getElem (by rw [← HN.out]; exact hlt)⟩
      obtain ⟨g, off, hg, hgl, c1, c2⟩ := H1.out.below (by rw [← HB.out]; exact HBw.out) k p hp
      subst hg
      have hst := load_step Y k p hp S
      rw [← HRk.out] at hst
      have hkI : (k : Int) < n := by omega
      have hbl := HP.out.lt
      have HBV : Hid (Below b w (wr.alloc (.cells #[i64 p.1, str p.2] 46))) := HBw.out.trans ((below_one wr _).mono (by omega))
      have HPV : Hid (PS (wr.alloc (.cells #[i64 p.1, str p.2] 46)) b b S) := HP.out.below (below_one wr _)
      have HX : Hid ((wr.alloc (.cells #[i64 p.1, str p.2] 46)).heap[wr.heap.size]? = some (.cells #[i64 p.1, str p.2] 46)) := heap_last wr _
      clear hp hgl hbl
      by_cases hr : 0 ≤ p.1 ∧ p.1 < 3
      · obtain ⟨i, hi⟩ : ∃ i : Nat, p.1 = i := ⟨p.1.toNat, by omega⟩
        have hi3 : i < 3 := by omega
        have hi3' : (i : Int) < 3 := by omega
        rw [hi] at c1 HBV HPV HX hr
        unfold put1 at hst
        rw [hi, Int.toNat_natCast] at hst
        have HHi := hid hi
        clear hi
        obtain ⟨A, hA⟩ := HPV.out
        rcases hA.known i hi3 with ⟨hA1, hS1⟩ | ⟨bk, D, hA1, hS1, hp1⟩
        · have hc := hA.cell i hi3
          rw [hA1] at hc
          have hcn : (wr.alloc (.cells #[i64 i, str p.2] 46)).cell? ⟨b, i, none⟩ = some (.pointer none) := hc
          have HCN := hid hcn
          have hcf : (wr.alloc (.cells #[i64 i, str p.2] 46)).frozen? ⟨b, i, none⟩ = false := blk_frozen hA.blk i
          have HPA := hid hA
          have HST := hid hst
          have HS1 := hid hS1
          have HA1 := hid hA1
          clear hA hA1 hst hc hS1
          go_upto_region 5 with fail
          obtain ⟨X, hX⟩ : ∃ X, X = wr.heap.size := ⟨_, rfl⟩
          rw [← hX] at HX ⊢
          clear hX
          generalize wr.alloc (.cells #[i64 i, str p.2] 46) = V at *
          have g0 : V.cell? ⟨X, 0, none⟩ = some (i64 i) := blk_cell HX.out 0
          go_quiet ((go_at_call 30; exact Calls.quiet_of_same (isPipe_in _ i hi3)))
          go_upto_region 7 with fail
          obtain ⟨V1, hV1⟩ : ∃ V1, V1 = V.drewN nq := ⟨_, rfl⟩
          have HPA1 : Hid (Ps V1.drew b b A S) := by rw [hV1]; exact HPA.out.keep rfl (fun _ _ _ _ => rfl)
          have HX1 : Hid (V1.drew.heap[X]? = some (.cells #[i64 i, str p.2] 46)) := by rw [hV1]; exact HX.out
          have HBV1 : Hid (Below b w V1.drew) := by rw [hV1]; exact ⟨HBV.out.os, HBV.out.tape, HBV.out.output, HBV.out.size, HBV.out.block⟩
          rw [← hV1]
          clear hV1 g0 hcn hcf
          have HS := HX1
          have HS1a : Hid ((V1.drew.alloc (.cells (pc []) 68)).heap[X]? = some (.cells #[i64 i, str p.2] 46)) := blk_alloc HX1.out _
          refine wp_region_noPanic ?_
          refine wp_region_last (fun W => W.heap[X]? = some (.cells #[i64 i, str p.2] 46)) 8 (by kernel_rfl) ?_
          refine wpL_take 0 28 (pq b) [] rfl rfl (by kernel_rfl) (by decide) (by kernel_rfl) (by kernel_rfl) (by kernel_rfl) (fun _ _ _ h => h) HS.out (by rfl) (fun W hW => by go_simp) ?_
          simp only [Act.put, List.setIfInBounds_toArray, List.set_cons_zero, List.set_cons_succ]
          refine wpL_take 1 29 (.pointer (some ⟨X, 0, none⟩)) [] rfl rfl (by kernel_rfl) (by decide) (by kernel_rfl) (by kernel_rfl) (by kernel_rfl) (fun _ _ _ h => h) HS.out (by rfl) (fun W hW => by go_simp) ?_
          simp only [Act.put, List.setIfInBounds_toArray, List.set_cons_zero, List.set_cons_succ]
          refine wpL_take 2 30 (i64 i) [] rfl rfl (by kernel_rfl) (by decide) (by kernel_rfl) (by kernel_rfl) (by kernel_rfl) (fun _ _ _ h => h) HS.out (by rfl) (fun W hW => by have e : W.cell? ⟨X, 0, none⟩ = some (i64 i) := blk_cell hW 0; go_simp) ?_
          simp only [Act.put, List.setIfInBounds_toArray, List.set_cons_zero, List.set_cons_succ]
          refine wpL_take 3 31 (.agg (pc [])) [] rfl rfl (by kernel_rfl) (by decide) (by kernel_rfl) (by kernel_rfl) (by kernel_rfl) (fun _ _ _ h => h) HS.out (by rfl) (fun W hW => by have e := zero68 W; go_simp) ?_
          simp only [Act.put, List.setIfInBounds_toArray, List.set_cons_zero, List.set_cons_succ]
          refine wpL_take 5 33 (pq b) [6, 7] rfl rfl (by kernel_rfl) (by decide) (by kernel_rfl) (by kernel_rfl) (by kernel_rfl) (fun _ _ _ h => h) HS.out (by rfl) (fun W hW => by go_simp) ?_
          simp only [Act.put, List.setIfInBounds_toArray, List.set_cons_zero, List.set_cons_succ]
          refine wpL_take 6 34 (pq b) [7] rfl rfl (by kernel_rfl) (by decide) (by kernel_rfl) (by kernel_rfl) (by kernel_rfl) (fun _ _ _ h => h) HS.out (by rfl) (fun W hW => by go_simp) ?_
          simp only [Act.put, List.setIfInBounds_toArray, List.set_cons_zero, List.set_cons_succ]
          refine wpL_one 4 rfl (by kernel_rfl) (by rfl) (fun K hK => ?_)
          go_simp
          refine hK.out _ _ (fun _ => HS1a.out) ?_
          clear hK K
          refine wpL_take 7 35 (.pointer (some ⟨b, i, none⟩)) [] rfl rfl (by kernel_rfl) (by decide) (by kernel_rfl) (by kernel_rfl) (by kernel_rfl) (fun _ _ _ h => h) HS1a.out (by rfl) (fun W hW => by go_simp) ?_
          simp only [Act.put, List.setIfInBounds_toArray, List.set_cons_zero, List.set_cons_succ]
          refine wpL_one 8 rfl (by kernel_rfl) (by rfl) (fun K hK => ?_)
          have d1 : V1.cell? ⟨b, i, none⟩ = some (.pointer none) := by
            have := HPA1.out.cell i hi3
            rw [HA1.out] at this
            exact this
          have f1 : V1.frozen? ⟨b, i, none⟩ = false := blk_frozen (w := V1.drew) HPA1.out.blk i
          have hbV : b < V1.heap.size := HPA1.out.lt
          have HADD := hid (HPA1.out.add hi3)
          have HXF : Hid (((V1.drew.alloc (.cells (pc []) 68)).setCell ⟨b, i, none⟩ (pq V1.drew.heap.size)).heap[X]? = some (.cells #[i64 i, str p.2] 46)) := HADD.out.2.kept _ _ HX1.out rfl
          go_simp
          refine hK.out _ _ (fun h => absurd rfl h) ?_
          clear hK K
          refine wpL_done (by kernel_rfl) ?_
          refine NoPanic.normal ?_
          clear d1 f1
          obtain ⟨W2, hW2⟩ : ∃ W2, W2 = ((V1.setCell ⟨b, i, none⟩ (.pointer (some ⟨V1.heap.size, 0, none⟩))).alloc (.cells (pc []) 68)).drew := ⟨_, rfl⟩
          have HE2 : Hid (W2 = (V1.drew.alloc (.cells (pc []) 68)).setCell ⟨b, i, none⟩ (pq V1.drew.heap.size)) := by
            rw [hW2]
            exact (congrArg World.drew (set_alloc V1 _ _ _ hbV)).trans rfl
          have HP2 : Hid (PS W2 b b (upd S i (some []))) := by rw [HE2.out]; exact HADD.out.1
          have HF2 : Hid (Fr b [57, 68] V1.drew W2) := by rw [HE2.out]; exact HADD.out.2
          have HX2 : Hid (W2.heap[X]? = some (.cells #[i64 i, str p.2] 46)) := by rw [HE2.out]; exact HXF.out
          have HB2 : Hid (Below b w W2) := HBV1.out.trans HF2.out.below
          rw [← hW2]
          clear hW2 HE2 HADD HXF hbV
          obtain ⟨A2, hA2⟩ := HP2.out
          rcases hA2.known i hi3 with ⟨_, hS2⟩ | ⟨bk, D, hA3, hS2, hp2⟩
          · rw [upd_same] at hS2; cases hS2
          rw [upd_same] at hS2
          obtain rfl : [] = D := by simpa using hS2
          have hc2 := hA2.cell i hi3
          rw [hA3] at hc2
          have HS8 : Hid (W2.drew.heap[X]? = some (.cells #[i64 i, str p.2] 46) ∧ W2.drew.cell? ⟨b, i, none⟩ = some (pq bk)) := ⟨HX2.out, hc2⟩
          have HPS2 : Hid (Ps W2.drew b b A2 (upd S i (some []))) := hA2.keep rfl (fun _ _ _ _ => rfl)
          have HA3 := hid hA3
          have HPip := hid hp2.drew
          clear hA2 hA3 hS2 hp2 hc2
          by_cases h16 : p.2.length ≤ 16
          · have HPut := hid (put_ok W2.drew bk [] (bs p.2) HPip.out (by rw [bs_size]; simpa using h16))
            have HE : Hid (R = loadF (Y.drop (k + 1)) (upd S i (some p.2))) := by
              have := HST.out
              rw [if_pos ⟨by omega, HS1.out, h16⟩] at this
              exact this
            go_upto_region 8 with fail
            have HS := HS8
            refine wp_region_noPanic ?_
            refine wp_region_last (fun W => W.heap[X]? = some (.cells #[i64 i, str p.2] 46) ∧ W.cell? ⟨b, i, none⟩ = some (pq bk)) 10 (by kernel_rfl) ?_
            refine wpL_take 0 36 (pq b) [3, 4, 5, 6, 9] rfl rfl (by kernel_rfl) (by decide) (by kernel_rfl) (by kernel_rfl) (by kernel_rfl) (fun _ _ _ h => h) HS.out (by rfl) (fun W hW => by go_simp) ?_
            simp only [Act.put, List.setIfInBounds_toArray, List.set_cons_zero, List.set_cons_succ]
            refine wpL_take 1 37 (.pointer (some ⟨X, 0, none⟩)) [2, 5, 6, 9] rfl rfl (by kernel_rfl) (by decide) (by kernel_rfl) (by kernel_rfl) (by kernel_rfl) (fun _ _ _ h => h) HS.out (by rfl) (fun W hW => by go_simp) ?_
            simp only [Act.put, List.setIfInBounds_toArray, List.set_cons_zero, List.set_cons_succ]
            refine wpL_take 2 38 (i64 i) [5, 6, 9] rfl rfl (by kernel_rfl) (by decide) (by kernel_rfl) (by kernel_rfl) (by kernel_rfl) (fun _ _ _ h => h) HS.out (by rfl) (fun W hW => by have e : W.cell? ⟨X, 0, none⟩ = some (i64 i) := blk_cell hW.1 0; go_simp) ?_
            simp only [Act.put, List.setIfInBounds_toArray, List.set_cons_zero, List.set_cons_succ]
            refine wpL_take 3 39 (pq b) [4, 5, 6, 9] rfl rfl (by kernel_rfl) (by decide) (by kernel_rfl) (by kernel_rfl) (by kernel_rfl) (fun _ _ _ h => h) HS.out (by rfl) (fun W hW => by go_simp) ?_
            simp only [Act.put, List.setIfInBounds_toArray, List.set_cons_zero, List.set_cons_succ]
            refine wpL_take 4 40 (pq b) [5, 6, 9] rfl rfl (by kernel_rfl) (by decide) (by kernel_rfl) (by kernel_rfl) (by kernel_rfl) (fun _ _ _ h => h) HS.out (by rfl) (fun W hW => by go_simp) ?_
            simp only [Act.put, List.setIfInBounds_toArray, List.set_cons_zero, List.set_cons_succ]
            refine wpL_take 5 41 (.pointer (some ⟨b, i, none⟩)) [6, 9] rfl rfl (by kernel_rfl) (by decide) (by kernel_rfl) (by kernel_rfl) (by kernel_rfl) (fun _ _ _ h => h) HS.out (by rfl) (fun W hW => by go_simp) ?_
            simp only [Act.put, List.setIfInBounds_toArray, List.set_cons_zero, List.set_cons_succ]
            refine wpL_take 6 42 (pq bk) [9] rfl rfl (by kernel_rfl) (by decide) (by kernel_rfl) (by kernel_rfl) (by kernel_rfl) (fun _ _ _ h => h) HS.out (by rfl) (fun W hW => by have e := hW.2; go_simp) ?_
            simp only [Act.put, List.setIfInBounds_toArray, List.set_cons_zero, List.set_cons_succ]
            refine wpL_take 7 43 (.pointer (some ⟨X, 1, none⟩)) [8, 9] rfl rfl (by kernel_rfl) (by decide) (by kernel_rfl) (by kernel_rfl) (by kernel_rfl) (fun _ _ _ h => h) HS.out (by rfl) (fun W hW => by go_simp) ?_
            simp only [Act.put, List.setIfInBounds_toArray, List.set_cons_zero, List.set_cons_succ]
            refine wpL_take 8 44 (str p.2) [9] rfl rfl (by kernel_rfl) (by decide) (by kernel_rfl) (by kernel_rfl) (by kernel_rfl) (fun _ _ _ h => h) HS.out (by rfl) (fun W hW => by have e : W.cell? ⟨X, 1, none⟩ = some (str p.2) := blk_cell hW.1 1; go_simp) ?_
            simp only [Act.put, List.setIfInBounds_toArray, List.set_cons_zero, List.set_cons_succ]
            refine wpL_one 9 rfl (by kernel_rfl) (by rfl) (fun K hK => ?_)
            go_simp
            refine HPut.out.mono ?_
            rintro e w5 ⟨rfl, hp5, ht5⟩
            have hps5 := HPS2.out.put hi3 HA3.out hp5 ht5
            have HP5 : Hid (PS w5 b b (upd S i (some p.2))) := by
              have := hps5.1
              rw [upd_upd] at this
              exact this
            have HB5 : Hid (Below b w w5) := HB2.out.trans (below_of_drew hps5.2.below)
            have HS5 : Hid (w5.heap[X]? = some (.cells #[i64 i, str p.2] 46) ∧ w5.cell? ⟨b, i, none⟩ = some (pq bk)) := ⟨hps5.2.kept _ _ HS8.out.1 rfl, by
              rw [ht5.cell (by exact HPS2.out.lt) (Ne.symm (HPS2.out.ne hi3 HA3.out))]
              exact HS8.out.2⟩
            clear hp5 ht5 hps5
            go_simp
            refine hK.out _ _ (fun _ => HS5.out) ?_
            clear hK K
            refine wpL_one 10 rfl (by kernel_rfl) (by rfl) (fun K hK => ?_)
            go_simp
            refine hK.out _ _ (fun h => absurd rfl h) ?_
            clear hK K
            refine wpL_done (by kernel_rfl) ?_
            refine NoPanic.normal ?_
            go_wp2_with fail
            exact ⟨⟨k + 1, _, by omega, by go_num, HE, HP5, HB5⟩, by simp [intOf]; omega⟩
          · have HPut := hid (put_full W2.drew bk [] (bs p.2) HPip.out (by rw [bs_size]; simp; omega))
            have HE : Hid (R = none) := by
              have := HST.out
              rw [if_neg (fun h => h16 h.2.2)] at this
              exact this
            go_upto_region 8 with fail
            have HS := HS8
            refine wp_region_noPanic ?_
            refine wp_region_last (fun W => W.heap[X]? = some (.cells #[i64 i, str p.2] 46) ∧ W.cell? ⟨b, i, none⟩ = some (pq bk)) 10 (by kernel_rfl) ?_
            refine wpL_take 0 36 (pq b) [3, 4, 5, 6, 9] rfl rfl (by kernel_rfl) (by decide) (by kernel_rfl) (by kernel_rfl) (by kernel_rfl) (fun _ _ _ h => h) HS.out (by rfl) (fun W hW => by go_simp) ?_
            simp only [Act.put, List.setIfInBounds_toArray, List.set_cons_zero, List.set_cons_succ]
            refine wpL_take 1 37 (.pointer (some ⟨X, 0, none⟩)) [2, 5, 6, 9] rfl rfl (by kernel_rfl) (by decide) (by kernel_rfl) (by kernel_rfl) (by kernel_rfl) (fun _ _ _ h => h) HS.out (by rfl) (fun W hW => by go_simp) ?_
            simp only [Act.put, List.setIfInBounds_toArray, List.set_cons_zero, List.set_cons_succ]
            refine wpL_take 2 38 (i64 i) [5, 6, 9] rfl rfl (by kernel_rfl) (by decide) (by kernel_rfl) (by kernel_rfl) (by kernel_rfl) (fun _ _ _ h => h) HS.out (by rfl) (fun W hW => by have e : W.cell? ⟨X, 0, none⟩ = some (i64 i) := blk_cell hW.1 0; go_simp) ?_
            simp only [Act.put, List.setIfInBounds_toArray, List.set_cons_zero, List.set_cons_succ]
            refine wpL_take 3 39 (pq b) [4, 5, 6, 9] rfl rfl (by kernel_rfl) (by decide) (by kernel_rfl) (by kernel_rfl) (by kernel_rfl) (fun _ _ _ h => h) HS.out (by rfl) (fun W hW => by go_simp) ?_
            simp only [Act.put, List.setIfInBounds_toArray, List.set_cons_zero, List.set_cons_succ]
            refine wpL_take 4 40 (pq b) [5, 6, 9] rfl rfl (by kernel_rfl) (by decide) (by kernel_rfl) (by kernel_rfl) (by kernel_rfl) (fun _ _ _ h => h) HS.out (by rfl) (fun W hW => by go_simp) ?_
            simp only [Act.put, List.setIfInBounds_toArray, List.set_cons_zero, List.set_cons_succ]
            refine wpL_take 5 41 (.pointer (some ⟨b, i, none⟩)) [6, 9] rfl rfl (by kernel_rfl) (by decide) (by kernel_rfl) (by kernel_rfl) (by kernel_rfl) (fun _ _ _ h => h) HS.out (by rfl) (fun W hW => by go_simp) ?_
            simp only [Act.put, List.setIfInBounds_toArray, List.set_cons_zero, List.set_cons_succ]
            refine wpL_take 6 42 (pq bk) [9] rfl rfl (by kernel_rfl) (by decide) (by kernel_rfl) (by kernel_rfl) (by kernel_rfl) (fun _ _ _ h => h) HS.out (by rfl) (fun W hW => by have e := hW.2; go_simp) ?_
            simp only [Act.put, List.setIfInBounds_toArray, List.set_cons_zero, List.set_cons_succ]
            refine wpL_take 7 43 (.pointer (some ⟨X, 1, none⟩)) [8, 9] rfl rfl (by kernel_rfl) (by decide) (by kernel_rfl) (by kernel_rfl) (by kernel_rfl) (fun _ _ _ h => h) HS.out (by rfl) (fun W hW => by go_simp) ?_
            simp only [Act.put, List.setIfInBounds_toArray, List.set_cons_zero, List.set_cons_succ]
            refine wpL_take 8 44 (str p.2) [9] rfl rfl (by kernel_rfl) (by decide) (by kernel_rfl) (by kernel_rfl) (by kernel_rfl) (fun _ _ _ h => h) HS.out (by rfl) (fun W hW => by have e : W.cell? ⟨X, 1, none⟩ = some (str p.2) := blk_cell hW.1 1; go_simp) ?_
            simp only [Act.put, List.setIfInBounds_toArray, List.set_cons_zero, List.set_cons_succ]
            refine wpL_one 9 rfl (by kernel_rfl) (by rfl) (fun K hK => ?_)
            go_simp
            refine HPut.out.mono ?_
            rintro e w5 ⟨rfl, hw5⟩
            have HS5 : Hid (w5.heap[X]? = some (.cells #[i64 i, str p.2] 46) ∧ w5.cell? ⟨b, i, none⟩ = some (pq bk)) := by rw [hw5]; exact HS8.out
            have HB5 : Hid (Below b w w5) := by rw [hw5]; exact ⟨HB2.out.os, HB2.out.tape, HB2.out.output, HB2.out.size, HB2.out.block⟩
            clear hw5
            go_simp
            refine hK.out _ _ (fun _ => HS5.out) ?_
            clear hK K
            refine wpL_one 10 rfl (by kernel_rfl) (by rfl) (fun K hK => ?_)
            go_simp
            refine hK.out _ _ (fun h => absurd rfl h) ?_
            clear hK K
            refine wpL_done (by kernel_rfl) ?_
            refine NoPanic.normal ?_
            go_wp2_with fail
            go_ret2
            exact .inl ⟨HE.out, rfl, HB5.out⟩
        · have hc := hA.cell i hi3
          rw [hA1] at hc
          have hcn : (wr.alloc (.cells #[i64 i, str p.2] 46)).cell? ⟨b, i, none⟩ = some (pq bk) := hc
          have HE : Hid (R = none) := by
            rw [if_neg (fun h => by rw [hS1] at h; cases h.2.1)] at hst
            exact hst
          clear hA hA1 hst hc hS1 hp1
          go_upto_region 5 with fail
          obtain ⟨X, hX⟩ : ∃ X, X = wr.heap.size := ⟨_, rfl⟩
          rw [← hX] at HX ⊢
          clear hX
          generalize wr.alloc (.cells #[i64 i, str p.2] 46) = V at *
          have g0 : V.cell? ⟨X, 0, none⟩ = some (i64 i) := blk_cell HX.out 0
          go_quiet ((go_at_call 30; exact Calls.quiet_of_same (isPipe_in _ i hi3)))
          go_wp2_with fail
          go_ret2
          exact .inl ⟨HE.out, rfl, below_drewN HBV.out _⟩
      · have HE : Hid (R = none) := by
          unfold put1 at hst
          rw [if_neg (fun h => hr h.1)] at hst
          exact hst
        have HOut := hid hr
        clear hst hr
        go_upto_region 5 with fail
        obtain ⟨X, hX⟩ : ∃ X, X = wr.heap.size := ⟨_, rfl⟩
        rw [← hX] at HX ⊢
        clear hX
        generalize wr.alloc (.cells #[i64 p.1, str p.2] 46) = V at *
        have g0 : V.cell? ⟨X, 0, none⟩ = some (i64 p.1) := blk_cell HX.out 0
        go_quiet ((go_at_call 30; exact Calls.quiet_of_same (isPipe_out _ p.1 HOut.out)))
        go_wp2_with fail
        go_ret2
        exact .inl ⟨HE.out, rfl, below_drewN HBV.out _⟩
    · have HE : Hid (R = some S) := by
        rw [HRk.out, List.drop_of_length_le (by rw [← HN.out]; omega)]
        rfl
      go_wp2_with fail
      go_ret2
      exact .inr ⟨S, HE.out, rfl, HP.out, HBw.out⟩
end Go.Proofs.Ytojhmiggocommaa
