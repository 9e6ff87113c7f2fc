/- play.Run: its contract; no statement is proved in this text. -/
import Derived.Test.YtigbfdloodfdgaaDoorPlayRunA
namespace Go.Proofs.YtigbfdloodfdgaaDoor
open Go.ChangeShapes Go.WideShapes Go.ChangeAt Go.RowKit

theorem exec_build {P : Program} {op : Oper} {a : Act} {w : World} {ty : TypeId} {ps : Array (Nat × Operand)} {qs : Array (Nat × Value)} {u : Value} (ho : op.op = .build ty ps) (hq : ps.map (fun p => (p.1, a.eval p.2)) = qs) (h : (Instr.build ty qs).run P w = .ok u w) : (execOp a.eval op).run P w = .ok (.value u) w := by
  unfold execOp
  simp only [ho, hq, h, Sem.run_bind, Sem.run_pure, Result.andThen_ok]
set_option maxRecDepth 100000 in
set_option maxHeartbeats 3200000 in
theorem run_in (w : World) (ht : Tab w) (l m : List UInt8) (ao : Option Addr) (cap : Nat) (A : List Int) (fuel b0 : Nat) (hb0 : w.heap.size = b0) (hl : l.length ≤ 256) (hm : m.length ≤ 256) (hf : fuel ≤ 5000) (ha : ASl w b0 (b0 + 1) (.slice ao A.length cap) A) :
    Calls Tryd.prog 9 #[.string ⟨l.toArray⟩, .string ⟨m.toArray⟩, .slice ao A.length cap, i64 fuel] w (RunPost w b0 (itP l fuel (s0P m A))) := by
  have hp : 0 < b0 := by rw [← hb0]; exact ht.pos
  have HT := hid ht
  have HA := hid ha
  have hlI : (l.length : Int) ≤ 256 := by omega
  have hmI : (m.length : Int) ≤ 256 := by omega
  have hfI : (fuel : Int) ≤ 5000 := by omega
  clear ht ha
  go_enter Tryd.func9, Tryd.ntmps9
  go_upto_region 7 with (first
    | (go_at_call 14; refine (begin_ok _ m hm ao A.length cap).mono ?_; rintro e V1 ⟨rfl, h1, h2, h3⟩; have H1 := hid h1; have H2 := hid h2; have H3 := hid h3; clear h1 h2 h3)
    | (go_at_call 15; refine (deeds_ok V1 (b0 + 1) (b0 + 2) (by rw [H3.out]; simp [hb0])).mono ?_; rintro e V2 ⟨rfl, h4, h5, h6⟩; have H4 := hid h4; have H5 := hid h5; have H6 := hid h6; clear h4 h5 h6))
  have h6 : V2.heap.size = b0 + 9 := H6.out
  have HL := hid (loop_start hb0 hp HT.out (by have := H1.out; simp only [World.size_alloc, hb0] at this; exact this) (by have := H2.out; simp only [World.size_alloc, hb0] at this; exact this) (by have := H3.out; simp only [World.size_alloc, hb0] at this; exact this) H4.out H5.out h6 HA.out)
  clear H1 H2 H3 H4 H5 H6
  rw [h6]
  generalize V2.alloc (.cells (deedsC (b0 + 2)).toArray 58) = V3 at *
  go_wp2_with fail
  go_loopw [12, 13] (fun h k wr => ∃ (hN j : Nat) (s : Rn), j ≤ fuel ∧ h = .int .i64 (hN : Nat) ∧ k = .int .i64 (j : Nat) ∧ itP l j (s0P m A) = (hN, j, s) ∧ s.K.length ≤ j ∧ LoopAt w b0 s wr) (fun _ k _ => fuel - (intOf k).toNat)
  case atStart => exact ⟨0, 0, s0P m A, by omega, rfl, rfl, rfl, Nat.le_refl _, HL.out⟩
  case round =>
    obtain ⟨hN, j, s, hj, rfl, rfl, hit, hkl, hlo⟩ := hrel
    by_cases hgo : hN = 0 ∧ j < fuel
    · obtain ⟨rfl, hjf⟩ := hgo
      obtain ⟨va, vc, hra, _, _⟩ := hlo.rn.ex
      have hC := hra.rg
      have HRA := hid hra
      have HLO := hid hlo
      have HFX := hid (fit_step hC l)
      have hD := hC.step l
      have HST := hid (fun v (hv : Tab v) => step_ok v hv s.C hC l (by unfold maxLen; omega))
      have HNX := hid (itP_next hit)
      have HKL := hid (Nat.le_trans (stepP_K l s) (Nat.succ_le_succ hkl))
      unfold stepP at HNX HKL
      have hK5 : s.K.length < 5000 := by omega
      have hjI : (j : Int) < fuel := by omega
      generalize stC s.C l = D at *
      generalize stA s.C l = x at *
      clear hra hlo hit
      go_upto_region 10 with (first
        | (refine wpList_load_mid rfl 30 (.tmp 47) rfl (b0 + 1) 0 rfl (cpC s.C) _ (by exact HRA.out.range) Tryd.underlying30 rfl (cpC_info hC) ?_)
        | (go_at_call 16; refine (HST.out _ HLO.out.tab).mono ?_; rintro e v1 ⟨rfl, hb1⟩; have HB1 := hid hb1; have HT1 := hid (two_there v1 hD); clear hb1)
        | (refine wpList_store_mid rfl 30 (.tmp 14) (.tmp 51) rfl v1.heap.size 0 (cpC D).toArray rfl rfl (by exact HT1.out.1) (cpC_infoA hD) (cpC_one _) ?_)
        | (refine wpList_store_mid rfl 61 (.tmp 15) (.tmp 52) rfl (v1.heap.size + 1) 0 (acC x).toArray rfl rfl (by exact HT1.out.2) info28 (by kernel_rfl) ?_))
      have HTS := hid (two_stored v1 hD x)
      have HLV := hid ((HLO.out.below HB1.out).below HTS.out.2.2)
      have HRow := hid HTS.out.1
      have HAct := hid HTS.out.2.1
      have hbR : v1.heap.size ≠ b0 + 1 ∧ v1.heap.size + 1 ≠ b0 + 1 := by have h1 := HB1.out.size; have h2 := HLO.out.hw; omega
      clear HTS
      generalize (((((v1.alloc Z9).alloc (Z6 61)).setCells v1.heap.size 0 (cpC D))).setCells (v1.heap.size + 1) 0 (acC x)) = V5 at *
      generalize v1.heap.size = bx at *
      have hk6 : x.k = 0 ∨ x.k = 1 ∨ x.k = 2 ∨ x.k = 3 ∨ x.k = 4 ∨ x.k = 5 := by have h1 := HFX.out.k0; have h2 := HFX.out.k5; omega
      have HLD : Hid (LoopAt w b0 s V5.drew) := HLV.out.below ⟨rfl, rfl, rfl, Nat.le_refl _, fun _ _ => rfl⟩
      rcases hk6 with hk | hk | hk | hk | hk | hk
      · have HS : Hid (SqK bx (b0 + 9) 0 (fn2 20 (b0 + 2) (b0 + 2 + 2)) D x V5.drew) := sqk_of (b := b0 + 2) hD hk ⟨HRow.out.row⟩ HAct.out HLV.out.dos rfl
        refine wp_region_noPanic ?_
        refine wp_region_last (SqK bx (b0 + 9) 0 (fn2 20 (b0 + 2) (b0 + 2 + 2)) D x) 7 (by kernel_rfl) ?_
        refine wpL_take 0 53 (.pointer (some ⟨bx + 1, 0, none⟩)) [1, 2, 3, 6] rfl rfl (by kernel_rfl) (by decide) (by kernel_rfl) (by kernel_rfl) (by kernel_rfl) (fun _ _ _ h => h) HS.out (by rfl) (fun W hW => by obtain ⟨s0, s1, s2, s3⟩ := hW; go_simp) ?_
        simp only [Act.put, List.setIfInBounds_toArray, List.set_cons_zero, List.set_cons_succ]
        refine wpL_take 1 54 (i64 0) [2, 3, 6] rfl rfl (by kernel_rfl) (by decide) (by kernel_rfl) (by kernel_rfl) (by kernel_rfl) (fun _ _ _ h => h) HS.out (by rfl) (fun W hW => by obtain ⟨s0, s1, s2, s3⟩ := hW; go_simp) ?_
        simp only [Act.put, List.setIfInBounds_toArray, List.set_cons_zero, List.set_cons_succ]
        refine wpL_take 2 55 (.pointer (some ⟨b0 + 9, 0, none⟩)) [3, 6] rfl rfl (by kernel_rfl) (by decide) (by kernel_rfl) (by kernel_rfl) (by kernel_rfl) (fun _ _ _ h => h) HS.out (by rfl) (fun W hW => by obtain ⟨s0, s1, s2, s3⟩ := hW; go_simp) ?_
        simp only [Act.put, List.setIfInBounds_toArray, List.set_cons_zero, List.set_cons_succ]
        refine wpL_take 3 56 (fn2 20 (b0 + 2) (b0 + 2 + 2)) [6] rfl rfl (by kernel_rfl) (by decide) (by kernel_rfl) (by kernel_rfl) (by kernel_rfl) (fun _ _ _ h => h) HS.out (by rfl) (fun W hW => by obtain ⟨s0, s1, s2, s3⟩ := hW; go_simp) ?_
        simp only [Act.put, List.setIfInBounds_toArray, List.set_cons_zero, List.set_cons_succ]
        refine wpL_take 4 57 (cpV D) [6] rfl rfl (by kernel_rfl) (by decide) (by kernel_rfl) (by kernel_rfl) (by kernel_rfl) (fun _ _ _ h => h) HS.out (by rfl) (fun W hW => by exact exec_load 30 (.tmp 14) rfl rfl hW.s2) ?_
        simp only [Act.put, List.setIfInBounds_toArray, List.set_cons_zero, List.set_cons_succ]
        refine wpL_take 5 58 (acV x) [6] rfl rfl (by kernel_rfl) (by decide) (by kernel_rfl) (by kernel_rfl) (by kernel_rfl) (fun _ _ _ h => h) HS.out (by rfl) (fun W hW => by exact exec_load 61 (.tmp 15) rfl rfl hW.s3) ?_
        simp only [Act.put, List.setIfInBounds_toArray, List.set_cons_zero, List.set_cons_succ]
        refine wpL_one 6 rfl (by kernel_rfl) (by rfl) (fun K hK => ?_)
        go_simp
        refine (deed0 (HLD.out.ready hD) x hk).mono ?_
        rintro e v6 ⟨rfl, g1, g2, g3⟩
        have HS6 : Hid (SqK bx (b0 + 9) 0 (fn2 20 (b0 + 2) (b0 + 2 + 2)) D x v6) := sqk_of (b := b0 + 2) hD hk ⟨(g3 bx _ 30 (0, 0) hbR.1 HRow.out.row (by decide)).trans HRow.out.row⟩ ((g3 (bx + 1) _ 61 (0, 0) hbR.2 HAct.out (by decide)).trans HAct.out) ((g2.block (b0 + 9) (by omega) (by omega)).trans HLV.out.dos) rfl
        have HL6 := hid (HLD.out.fr g2 g1)
        clear g1 g2 g3
        go_simp
        refine hK.out _ _ (fun _ => HS6.out) ?_
        clear hK K
        refine wpL_one 7 rfl (by kernel_rfl) (by rfl) (fun K hK => ?_)
        go_simp
        refine hK.out _ _ (fun _ => HS6.out) ?_
        clear hK K
        refine wpL_done (by kernel_rfl) ?_
        refine NoPanic.normal ?_
        go_wp2_with fail
        exact ⟨⟨(doP D x s).1, j + 1, (doP D x s).2, by omega, rfl, by go_num, HNX.out, HKL.out, HL6.out⟩, by simp [intOf]; omega⟩
      · have HS : Hid (SqK bx (b0 + 9) 1 (fn2 20 (b0 + 2) (b0 + 2 + 3)) D x V5.drew) := sqk_of (b := b0 + 2) hD hk ⟨HRow.out.row⟩ HAct.out HLV.out.dos rfl
        refine wp_region_noPanic ?_
        refine wp_region_last (SqK bx (b0 + 9) 1 (fn2 20 (b0 + 2) (b0 + 2 + 3)) D x) 7 (by kernel_rfl) ?_
        refine wpL_take 0 53 (.pointer (some ⟨bx + 1, 0, none⟩)) [1, 2, 3, 6] rfl rfl (by kernel_rfl) (by decide) (by kernel_rfl) (by kernel_rfl) (by kernel_rfl) (fun _ _ _ h => h) HS.out (by rfl) (fun W hW => by obtain ⟨s0, s1, s2, s3⟩ := hW; go_simp) ?_
        simp only [Act.put, List.setIfInBounds_toArray, List.set_cons_zero, List.set_cons_succ]
        refine wpL_take 1 54 (i64 1) [2, 3, 6] rfl rfl (by kernel_rfl) (by decide) (by kernel_rfl) (by kernel_rfl) (by kernel_rfl) (fun _ _ _ h => h) HS.out (by rfl) (fun W hW => by obtain ⟨s0, s1, s2, s3⟩ := hW; go_simp) ?_
        simp only [Act.put, List.setIfInBounds_toArray, List.set_cons_zero, List.set_cons_succ]
        refine wpL_take 2 55 (.pointer (some ⟨b0 + 9, 1, none⟩)) [3, 6] rfl rfl (by kernel_rfl) (by decide) (by kernel_rfl) (by kernel_rfl) (by kernel_rfl) (fun _ _ _ h => h) HS.out (by rfl) (fun W hW => by obtain ⟨s0, s1, s2, s3⟩ := hW; go_simp) ?_
        simp only [Act.put, List.setIfInBounds_toArray, List.set_cons_zero, List.set_cons_succ]
        refine wpL_take 3 56 (fn2 20 (b0 + 2) (b0 + 2 + 3)) [6] rfl rfl (by kernel_rfl) (by decide) (by kernel_rfl) (by kernel_rfl) (by kernel_rfl) (fun _ _ _ h => h) HS.out (by rfl) (fun W hW => by obtain ⟨s0, s1, s2, s3⟩ := hW; go_simp) ?_
        simp only [Act.put, List.setIfInBounds_toArray, List.set_cons_zero, List.set_cons_succ]
        refine wpL_take 4 57 (cpV D) [6] rfl rfl (by kernel_rfl) (by decide) (by kernel_rfl) (by kernel_rfl) (by kernel_rfl) (fun _ _ _ h => h) HS.out (by rfl) (fun W hW => by exact exec_load 30 (.tmp 14) rfl rfl hW.s2) ?_
        simp only [Act.put, List.setIfInBounds_toArray, List.set_cons_zero, List.set_cons_succ]
        refine wpL_take 5 58 (acV x) [6] rfl rfl (by kernel_rfl) (by decide) (by kernel_rfl) (by kernel_rfl) (by kernel_rfl) (fun _ _ _ h => h) HS.out (by rfl) (fun W hW => by exact exec_load 61 (.tmp 15) rfl rfl hW.s3) ?_
        simp only [Act.put, List.setIfInBounds_toArray, List.set_cons_zero, List.set_cons_succ]
        refine wpL_one 6 rfl (by kernel_rfl) (by rfl) (fun K hK => ?_)
        go_simp
        refine (deed1 (HLD.out.ready hD) x hk).mono ?_
        rintro e v6 ⟨rfl, g1, g2, g3⟩
        have HS6 : Hid (SqK bx (b0 + 9) 1 (fn2 20 (b0 + 2) (b0 + 2 + 3)) D x v6) := sqk_of (b := b0 + 2) hD hk ⟨(g3 bx _ 30 (0, 0) hbR.1 HRow.out.row (by decide)).trans HRow.out.row⟩ ((g3 (bx + 1) _ 61 (0, 0) hbR.2 HAct.out (by decide)).trans HAct.out) ((g2.block (b0 + 9) (by omega) (by omega)).trans HLV.out.dos) rfl
        have HL6 := hid (HLD.out.fr g2 g1)
        clear g1 g2 g3
        go_simp
        refine hK.out _ _ (fun _ => HS6.out) ?_
        clear hK K
        refine wpL_one 7 rfl (by kernel_rfl) (by rfl) (fun K hK => ?_)
        go_simp
        refine hK.out _ _ (fun _ => HS6.out) ?_
        clear hK K
        refine wpL_done (by kernel_rfl) ?_
        refine NoPanic.normal ?_
        go_wp2_with fail
        exact ⟨⟨(doP D x s).1, j + 1, (doP D x s).2, by omega, rfl, by go_num, HNX.out, HKL.out, HL6.out⟩, by simp [intOf]; omega⟩
      · have HS : Hid (SqK bx (b0 + 9) 2 (fn1 28 (b0 + 2)) D x V5.drew) := sqk_of (b := b0 + 2) hD hk ⟨HRow.out.row⟩ HAct.out HLV.out.dos rfl
        refine wp_region_noPanic ?_
        refine wp_region_last (SqK bx (b0 + 9) 2 (fn1 28 (b0 + 2)) D x) 7 (by kernel_rfl) ?_
        refine wpL_take 0 53 (.pointer (some ⟨bx + 1, 0, none⟩)) [1, 2, 3, 6] rfl rfl (by kernel_rfl) (by decide) (by kernel_rfl) (by kernel_rfl) (by kernel_rfl) (fun _ _ _ h => h) HS.out (by rfl) (fun W hW => by obtain ⟨s0, s1, s2, s3⟩ := hW; go_simp) ?_
        simp only [Act.put, List.setIfInBounds_toArray, List.set_cons_zero, List.set_cons_succ]
        refine wpL_take 1 54 (i64 2) [2, 3, 6] rfl rfl (by kernel_rfl) (by decide) (by kernel_rfl) (by kernel_rfl) (by kernel_rfl) (fun _ _ _ h => h) HS.out (by rfl) (fun W hW => by obtain ⟨s0, s1, s2, s3⟩ := hW; go_simp) ?_
        simp only [Act.put, List.setIfInBounds_toArray, List.set_cons_zero, List.set_cons_succ]
        refine wpL_take 2 55 (.pointer (some ⟨b0 + 9, 2, none⟩)) [3, 6] rfl rfl (by kernel_rfl) (by decide) (by kernel_rfl) (by kernel_rfl) (by kernel_rfl) (fun _ _ _ h => h) HS.out (by rfl) (fun W hW => by obtain ⟨s0, s1, s2, s3⟩ := hW; go_simp) ?_
        simp only [Act.put, List.setIfInBounds_toArray, List.set_cons_zero, List.set_cons_succ]
        refine wpL_take 3 56 (fn1 28 (b0 + 2)) [6] rfl rfl (by kernel_rfl) (by decide) (by kernel_rfl) (by kernel_rfl) (by kernel_rfl) (fun _ _ _ h => h) HS.out (by rfl) (fun W hW => by obtain ⟨s0, s1, s2, s3⟩ := hW; go_simp) ?_
        simp only [Act.put, List.setIfInBounds_toArray, List.set_cons_zero, List.set_cons_succ]
        refine wpL_take 4 57 (cpV D) [6] rfl rfl (by kernel_rfl) (by decide) (by kernel_rfl) (by kernel_rfl) (by kernel_rfl) (fun _ _ _ h => h) HS.out (by rfl) (fun W hW => by exact exec_load 30 (.tmp 14) rfl rfl hW.s2) ?_
        simp only [Act.put, List.setIfInBounds_toArray, List.set_cons_zero, List.set_cons_succ]
        refine wpL_take 5 58 (acV x) [6] rfl rfl (by kernel_rfl) (by decide) (by kernel_rfl) (by kernel_rfl) (by kernel_rfl) (fun _ _ _ h => h) HS.out (by rfl) (fun W hW => by exact exec_load 61 (.tmp 15) rfl rfl hW.s3) ?_
        simp only [Act.put, List.setIfInBounds_toArray, List.set_cons_zero, List.set_cons_succ]
        refine wpL_one 6 rfl (by kernel_rfl) (by rfl) (fun K hK => ?_)
        go_simp
        refine (deed2 (HLD.out.ready hD) x hk (by omega)).mono ?_
        rintro e v6 ⟨rfl, g1, g2, g3⟩
        have HS6 : Hid (SqK bx (b0 + 9) 2 (fn1 28 (b0 + 2)) D x v6) := sqk_of (b := b0 + 2) hD hk ⟨(g3 bx _ 30 (0, 0) hbR.1 HRow.out.row (by decide)).trans HRow.out.row⟩ ((g3 (bx + 1) _ 61 (0, 0) hbR.2 HAct.out (by decide)).trans HAct.out) ((g2.block (b0 + 9) (by omega) (by omega)).trans HLV.out.dos) rfl
        have HL6 := hid (HLD.out.fr g2 g1)
        clear g1 g2 g3
        go_simp
        refine hK.out _ _ (fun _ => HS6.out) ?_
        clear hK K
        refine wpL_one 7 rfl (by kernel_rfl) (by rfl) (fun K hK => ?_)
        go_simp
        refine hK.out _ _ (fun _ => HS6.out) ?_
        clear hK K
        refine wpL_done (by kernel_rfl) ?_
        refine NoPanic.normal ?_
        go_wp2_with fail
        exact ⟨⟨(doP D x s).1, j + 1, (doP D x s).2, by omega, rfl, by go_num, HNX.out, HKL.out, HL6.out⟩, by simp [intOf]; omega⟩
      · have HS : Hid (SqK bx (b0 + 9) 3 (fn1 22 (b0 + 2 + 4)) D x V5.drew) := sqk_of (b := b0 + 2) hD hk ⟨HRow.out.row⟩ HAct.out HLV.out.dos rfl
        refine wp_region_noPanic ?_
        refine wp_region_last (SqK bx (b0 + 9) 3 (fn1 22 (b0 + 2 + 4)) D x) 7 (by kernel_rfl) ?_
        refine wpL_take 0 53 (.pointer (some ⟨bx + 1, 0, none⟩)) [1, 2, 3, 6] rfl rfl (by kernel_rfl) (by decide) (by kernel_rfl) (by kernel_rfl) (by kernel_rfl) (fun _ _ _ h => h) HS.out (by rfl) (fun W hW => by obtain ⟨s0, s1, s2, s3⟩ := hW; go_simp) ?_
        simp only [Act.put, List.setIfInBounds_toArray, List.set_cons_zero, List.set_cons_succ]
        refine wpL_take 1 54 (i64 3) [2, 3, 6] rfl rfl (by kernel_rfl) (by decide) (by kernel_rfl) (by kernel_rfl) (by kernel_rfl) (fun _ _ _ h => h) HS.out (by rfl) (fun W hW => by obtain ⟨s0, s1, s2, s3⟩ := hW; go_simp) ?_
        simp only [Act.put, List.setIfInBounds_toArray, List.set_cons_zero, List.set_cons_succ]
        refine wpL_take 2 55 (.pointer (some ⟨b0 + 9, 3, none⟩)) [3, 6] rfl rfl (by kernel_rfl) (by decide) (by kernel_rfl) (by kernel_rfl) (by kernel_rfl) (fun _ _ _ h => h) HS.out (by rfl) (fun W hW => by obtain ⟨s0, s1, s2, s3⟩ := hW; go_simp) ?_
        simp only [Act.put, List.setIfInBounds_toArray, List.set_cons_zero, List.set_cons_succ]
        refine wpL_take 3 56 (fn1 22 (b0 + 2 + 4)) [6] rfl rfl (by kernel_rfl) (by decide) (by kernel_rfl) (by kernel_rfl) (by kernel_rfl) (fun _ _ _ h => h) HS.out (by rfl) (fun W hW => by obtain ⟨s0, s1, s2, s3⟩ := hW; go_simp) ?_
        simp only [Act.put, List.setIfInBounds_toArray, List.set_cons_zero, List.set_cons_succ]
        refine wpL_take 4 57 (cpV D) [6] rfl rfl (by kernel_rfl) (by decide) (by kernel_rfl) (by kernel_rfl) (by kernel_rfl) (fun _ _ _ h => h) HS.out (by rfl) (fun W hW => by exact exec_load 30 (.tmp 14) rfl rfl hW.s2) ?_
        simp only [Act.put, List.setIfInBounds_toArray, List.set_cons_zero, List.set_cons_succ]
        refine wpL_take 5 58 (acV x) [6] rfl rfl (by kernel_rfl) (by decide) (by kernel_rfl) (by kernel_rfl) (by kernel_rfl) (fun _ _ _ h => h) HS.out (by rfl) (fun W hW => by exact exec_load 61 (.tmp 15) rfl rfl hW.s3) ?_
        simp only [Act.put, List.setIfInBounds_toArray, List.set_cons_zero, List.set_cons_succ]
        refine wpL_one 6 rfl (by kernel_rfl) (by rfl) (fun K hK => ?_)
        go_simp
        refine (deed3 (HLD.out.ready hD) x hk HFX.out).mono ?_
        rintro e v6 ⟨rfl, g1, g2, g3⟩
        have HS6 : Hid (SqK bx (b0 + 9) 3 (fn1 22 (b0 + 2 + 4)) D x v6) := sqk_of (b := b0 + 2) hD hk ⟨(g3 bx _ 30 (0, 0) hbR.1 HRow.out.row (by decide)).trans HRow.out.row⟩ ((g3 (bx + 1) _ 61 (0, 0) hbR.2 HAct.out (by decide)).trans HAct.out) ((g2.block (b0 + 9) (by omega) (by omega)).trans HLV.out.dos) rfl
        have HL6 := hid (HLD.out.fr g2 g1)
        clear g1 g2 g3
        go_simp
        refine hK.out _ _ (fun _ => HS6.out) ?_
        clear hK K
        refine wpL_one 7 rfl (by kernel_rfl) (by rfl) (fun K hK => ?_)
        go_simp
        refine hK.out _ _ (fun _ => HS6.out) ?_
        clear hK K
        refine wpL_done (by kernel_rfl) ?_
        refine NoPanic.normal ?_
        go_wp2_with fail
        exact ⟨⟨(doP D x s).1, j + 1, (doP D x s).2, by omega, rfl, by go_num, HNX.out, HKL.out, HL6.out⟩, by simp [intOf]; omega⟩
      · have HS : Hid (SqK bx (b0 + 9) 4 (fn1 22 (b0 + 2 + 5)) D x V5.drew) := sqk_of (b := b0 + 2) hD hk ⟨HRow.out.row⟩ HAct.out HLV.out.dos rfl
        refine wp_region_noPanic ?_
        refine wp_region_last (SqK bx (b0 + 9) 4 (fn1 22 (b0 + 2 + 5)) D x) 7 (by kernel_rfl) ?_
        refine wpL_take 0 53 (.pointer (some ⟨bx + 1, 0, none⟩)) [1, 2, 3, 6] rfl rfl (by kernel_rfl) (by decide) (by kernel_rfl) (by kernel_rfl) (by kernel_rfl) (fun _ _ _ h => h) HS.out (by rfl) (fun W hW => by obtain ⟨s0, s1, s2, s3⟩ := hW; go_simp) ?_
        simp only [Act.put, List.setIfInBounds_toArray, List.set_cons_zero, List.set_cons_succ]
        refine wpL_take 1 54 (i64 4) [2, 3, 6] rfl rfl (by kernel_rfl) (by decide) (by kernel_rfl) (by kernel_rfl) (by kernel_rfl) (fun _ _ _ h => h) HS.out (by rfl) (fun W hW => by obtain ⟨s0, s1, s2, s3⟩ := hW; go_simp) ?_
        simp only [Act.put, List.setIfInBounds_toArray, List.set_cons_zero, List.set_cons_succ]
        refine wpL_take 2 55 (.pointer (some ⟨b0 + 9, 4, none⟩)) [3, 6] rfl rfl (by kernel_rfl) (by decide) (by kernel_rfl) (by kernel_rfl) (by kernel_rfl) (fun _ _ _ h => h) HS.out (by rfl) (fun W hW => by obtain ⟨s0, s1, s2, s3⟩ := hW; go_simp) ?_
        simp only [Act.put, List.setIfInBounds_toArray, List.set_cons_zero, List.set_cons_succ]
        refine wpL_take 3 56 (fn1 22 (b0 + 2 + 5)) [6] rfl rfl (by kernel_rfl) (by decide) (by kernel_rfl) (by kernel_rfl) (by kernel_rfl) (fun _ _ _ h => h) HS.out (by rfl) (fun W hW => by obtain ⟨s0, s1, s2, s3⟩ := hW; go_simp) ?_
        simp only [Act.put, List.setIfInBounds_toArray, List.set_cons_zero, List.set_cons_succ]
        refine wpL_take 4 57 (cpV D) [6] rfl rfl (by kernel_rfl) (by decide) (by kernel_rfl) (by kernel_rfl) (by kernel_rfl) (fun _ _ _ h => h) HS.out (by rfl) (fun W hW => by exact exec_load 30 (.tmp 14) rfl rfl hW.s2) ?_
        simp only [Act.put, List.setIfInBounds_toArray, List.set_cons_zero, List.set_cons_succ]
        refine wpL_take 5 58 (acV x) [6] rfl rfl (by kernel_rfl) (by decide) (by kernel_rfl) (by kernel_rfl) (by kernel_rfl) (fun _ _ _ h => h) HS.out (by rfl) (fun W hW => by exact exec_load 61 (.tmp 15) rfl rfl hW.s3) ?_
        simp only [Act.put, List.setIfInBounds_toArray, List.set_cons_zero, List.set_cons_succ]
        refine wpL_one 6 rfl (by kernel_rfl) (by rfl) (fun K hK => ?_)
        go_simp
        refine (deed4 (HLD.out.ready hD) x hk HFX.out).mono ?_
        rintro e v6 ⟨rfl, g1, g2, g3⟩
        have HS6 : Hid (SqK bx (b0 + 9) 4 (fn1 22 (b0 + 2 + 5)) D x v6) := sqk_of (b := b0 + 2) hD hk ⟨(g3 bx _ 30 (0, 0) hbR.1 HRow.out.row (by decide)).trans HRow.out.row⟩ ((g3 (bx + 1) _ 61 (0, 0) hbR.2 HAct.out (by decide)).trans HAct.out) ((g2.block (b0 + 9) (by omega) (by omega)).trans HLV.out.dos) rfl
        have HL6 := hid (HLD.out.fr g2 g1)
        clear g1 g2 g3
        go_simp
        refine hK.out _ _ (fun _ => HS6.out) ?_
        clear hK K
        refine wpL_one 7 rfl (by kernel_rfl) (by rfl) (fun K hK => ?_)
        go_simp
        refine hK.out _ _ (fun _ => HS6.out) ?_
        clear hK K
        refine wpL_done (by kernel_rfl) ?_
        refine NoPanic.normal ?_
        go_wp2_with fail
        exact ⟨⟨(doP D x s).1, j + 1, (doP D x s).2, by omega, rfl, by go_num, HNX.out, HKL.out, HL6.out⟩, by simp [intOf]; omega⟩
      · have HS : Hid (SqK bx (b0 + 9) 5 (fn2 20 (b0 + 2) (b0 + 2 + 6)) D x V5.drew) := sqk_of (b := b0 + 2) hD hk ⟨HRow.out.row⟩ HAct.out HLV.out.dos rfl
        refine wp_region_noPanic ?_
        refine wp_region_last (SqK bx (b0 + 9) 5 (fn2 20 (b0 + 2) (b0 + 2 + 6)) D x) 7 (by kernel_rfl) ?_
        refine wpL_take 0 53 (.pointer (some ⟨bx + 1, 0, none⟩)) [1, 2, 3, 6] rfl rfl (by kernel_rfl) (by decide) (by kernel_rfl) (by kernel_rfl) (by kernel_rfl) (fun _ _ _ h => h) HS.out (by rfl) (fun W hW => by obtain ⟨s0, s1, s2, s3⟩ := hW; go_simp) ?_
        simp only [Act.put, List.setIfInBounds_toArray, List.set_cons_zero, List.set_cons_succ]
        refine wpL_take 1 54 (i64 5) [2, 3, 6] rfl rfl (by kernel_rfl) (by decide) (by kernel_rfl) (by kernel_rfl) (by kernel_rfl) (fun _ _ _ h => h) HS.out (by rfl) (fun W hW => by obtain ⟨s0, s1, s2, s3⟩ := hW; go_simp) ?_
        simp only [Act.put, List.setIfInBounds_toArray, List.set_cons_zero, List.set_cons_succ]
        refine wpL_take 2 55 (.pointer (some ⟨b0 + 9, 5, none⟩)) [3, 6] rfl rfl (by kernel_rfl) (by decide) (by kernel_rfl) (by kernel_rfl) (by kernel_rfl) (fun _ _ _ h => h) HS.out (by rfl) (fun W hW => by obtain ⟨s0, s1, s2, s3⟩ := hW; go_simp) ?_
        simp only [Act.put, List.setIfInBounds_toArray, List.set_cons_zero, List.set_cons_succ]
        refine wpL_take 3 56 (fn2 20 (b0 + 2) (b0 + 2 + 6)) [6] rfl rfl (by kernel_rfl) (by decide) (by kernel_rfl) (by kernel_rfl) (by kernel_rfl) (fun _ _ _ h => h) HS.out (by rfl) (fun W hW => by obtain ⟨s0, s1, s2, s3⟩ := hW; go_simp) ?_
        simp only [Act.put, List.setIfInBounds_toArray, List.set_cons_zero, List.set_cons_succ]
        refine wpL_take 4 57 (cpV D) [6] rfl rfl (by kernel_rfl) (by decide) (by kernel_rfl) (by kernel_rfl) (by kernel_rfl) (fun _ _ _ h => h) HS.out (by rfl) (fun W hW => by exact exec_load 30 (.tmp 14) rfl rfl hW.s2) ?_
        simp only [Act.put, List.setIfInBounds_toArray, List.set_cons_zero, List.set_cons_succ]
        refine wpL_take 5 58 (acV x) [6] rfl rfl (by kernel_rfl) (by decide) (by kernel_rfl) (by kernel_rfl) (by kernel_rfl) (fun _ _ _ h => h) HS.out (by rfl) (fun W hW => by exact exec_load 61 (.tmp 15) rfl rfl hW.s3) ?_
        simp only [Act.put, List.setIfInBounds_toArray, List.set_cons_zero, List.set_cons_succ]
        refine wpL_one 6 rfl (by kernel_rfl) (by rfl) (fun K hK => ?_)
        go_simp
        refine (deed5 (HLD.out.ready hD) x hk).mono ?_
        rintro e v6 ⟨rfl, g1, g2, g3⟩
        have HS6 : Hid (SqK bx (b0 + 9) 5 (fn2 20 (b0 + 2) (b0 + 2 + 6)) D x v6) := sqk_of (b := b0 + 2) hD hk ⟨(g3 bx _ 30 (0, 0) hbR.1 HRow.out.row (by decide)).trans HRow.out.row⟩ ((g3 (bx + 1) _ 61 (0, 0) hbR.2 HAct.out (by decide)).trans HAct.out) ((g2.block (b0 + 9) (by omega) (by omega)).trans HLV.out.dos) rfl
        have HL6 := hid (HLD.out.fr g2 g1)
        clear g1 g2 g3
        go_simp
        refine hK.out _ _ (fun _ => HS6.out) ?_
        clear hK K
        refine wpL_one 7 rfl (by kernel_rfl) (by rfl) (fun K hK => ?_)
        go_simp
        refine hK.out _ _ (fun _ => HS6.out) ?_
        clear hK K
        refine wpL_done (by kernel_rfl) ?_
        refine NoPanic.normal ?_
        go_wp2_with fail
        exact ⟨⟨(doP D x s).1, j + 1, (doP D x s).2, by omega, rfl, by go_num, HNX.out, HKL.out, HL6.out⟩, by simp [intOf]; omega⟩
    · obtain ⟨va, vc, hra, _, how⟩ := hlo.rn.ex
      obtain ⟨ao1, n1, cap1, rfl⟩ : ∃ a n c, vc = .slice a n c := by
        rcases how.2 with ⟨rfl, _⟩ | ⟨g, c, cur, rfl, _⟩
        · exact ⟨_, _, _, rfl⟩
        · exact ⟨_, _, _, rfl⟩
      have hC := hra.rg
      have HRA := hid hra
      have HRD := hid hra.drew
      have HLO := hid hlo
      have HOW := hid how
      have hfi : itP l fuel (s0P m A) = (hN, j, s) := by
        by_cases h0 : hN = 0
        · rw [← hit, show fuel = j by omega]
        · have := itP_stay l (s0P m A) (n := j) (by rw [hit]; exact h0) (fuel - j)
          rw [show j + (fuel - j) = fuel by omega] at this
          rw [this, hit]
      have HFI := hid hfi
      clear hra hlo how hit hfi
      by_cases h0 : hN = 0
      · subst h0
        obtain rfl : j = fuel := by omega
        go_upto_region 14 with fail
        refine wp_region_noPanic ?_
        refine wp_region_last (fun W => RunAt W (b0 + 1) s.C s.M va (.slice ao1 n1 cap1)) 17 (by kernel_rfl) ?_
        refine wpL_take 0 64 (i64 4) [15, 16] rfl rfl (by kernel_rfl) (by decide) (by kernel_rfl) (by kernel_rfl) (by kernel_rfl) (fun _ _ _ h => h) HRD.out (by rfl) (fun W hW => by go_simp) ?_
        simp only [Act.put, List.setIfInBounds_toArray, List.set_cons_zero, List.set_cons_succ]
        refine wpL_take 1 65 (i64 (j : Nat)) [15, 16] rfl rfl (by kernel_rfl) (by decide) (by kernel_rfl) (by kernel_rfl) (by kernel_rfl) (fun _ _ _ h => h) HRD.out (by rfl) (fun W hW => by go_simp) ?_
        simp only [Act.put, List.setIfInBounds_toArray, List.set_cons_zero, List.set_cons_succ]
        refine wpL_take 2 66 (.pointer (some ⟨b0 + 1, 0, none⟩)) [3, 4, 5, 15, 16] rfl rfl (by kernel_rfl) (by decide) (by kernel_rfl) (by kernel_rfl) (by kernel_rfl) (fun _ _ _ h => h) HRD.out (by rfl) (fun W hW => by go_simp) ?_
        simp only [Act.put, List.setIfInBounds_toArray, List.set_cons_zero, List.set_cons_succ]
        refine wpL_take 3 67 (.pointer (some ⟨b0 + 1, 0, none⟩)) [4, 5, 15, 16] rfl rfl (by kernel_rfl) (by decide) (by kernel_rfl) (by kernel_rfl) (by kernel_rfl) (fun _ _ _ h => h) HRD.out (by rfl) (fun W hW => by go_simp) ?_
        simp only [Act.put, List.setIfInBounds_toArray, List.set_cons_zero, List.set_cons_succ]
        refine wpL_take 4 68 (.pointer (some ⟨b0 + 1, 0, none⟩)) [5, 15, 16] rfl rfl (by kernel_rfl) (by decide) (by kernel_rfl) (by kernel_rfl) (by kernel_rfl) (fun _ _ _ h => h) HRD.out (by rfl) (fun W hW => by go_simp) ?_
        simp only [Act.put, List.setIfInBounds_toArray, List.set_cons_zero, List.set_cons_succ]
        refine wpL_take 5 69 (cpV s.C) [15, 16] rfl rfl (by kernel_rfl) (by decide) (by kernel_rfl) (by kernel_rfl) (by kernel_rfl) (fun _ _ _ h => h) HRD.out (by rfl) (fun W hW => by exact exec_load 30 (.tmp 68) rfl rfl (run_loadVar_mid _ _ 0 30 _ _ hW.range Tryd.underlying30 rfl (cpC_info hW.rg))) ?_
        simp only [Act.put, List.setIfInBounds_toArray, List.set_cons_zero, List.set_cons_succ]
        refine wpL_take 6 70 (.pointer (some ⟨b0 + 1, 0, none⟩)) [7, 8, 9, 10, 15, 16] rfl rfl (by kernel_rfl) (by decide) (by kernel_rfl) (by kernel_rfl) (by kernel_rfl) (fun _ _ _ h => h) HRD.out (by rfl) (fun W hW => by go_simp) ?_
        simp only [Act.put, List.setIfInBounds_toArray, List.set_cons_zero, List.set_cons_succ]
        refine wpL_take 7 71 (.pointer (some ⟨b0 + 1, 0, none⟩)) [8, 9, 10, 15, 16] rfl rfl (by kernel_rfl) (by decide) (by kernel_rfl) (by kernel_rfl) (by kernel_rfl) (fun _ _ _ h => h) HRD.out (by rfl) (fun W hW => by go_simp) ?_
        simp only [Act.put, List.setIfInBounds_toArray, List.set_cons_zero, List.set_cons_succ]
        refine wpL_take 8 72 (.pointer (some ⟨b0 + 1, 9, none⟩)) [9, 10, 15, 16] rfl rfl (by kernel_rfl) (by decide) (by kernel_rfl) (by kernel_rfl) (by kernel_rfl) (fun _ _ _ h => h) HRD.out (by rfl) (fun W hW => by go_simp) ?_
        simp only [Act.put, List.setIfInBounds_toArray, List.set_cons_zero, List.set_cons_succ]
        refine wpL_take 9 73 (.slice (some ⟨b0 + 1, 9, none⟩) 256 256) [10, 15, 16] rfl rfl (by kernel_rfl) (by decide) (by kernel_rfl) (by kernel_rfl) (by kernel_rfl) (fun _ _ _ h => h) HRD.out (by rfl) (fun W hW => by go_simp) ?_
        simp only [Act.put, List.setIfInBounds_toArray, List.set_cons_zero, List.set_cons_succ]
        refine wpL_take 10 74 (.string ⟨s.M.toArray⟩) [15, 16] rfl rfl (by kernel_rfl) (by decide) (by kernel_rfl) (by kernel_rfl) (by kernel_rfl) (fun _ _ _ h => h) HRD.out (by rfl) (fun W hW => by have s1 := hW.conv; go_simp) ?_
        simp only [Act.put, List.setIfInBounds_toArray, List.set_cons_zero, List.set_cons_succ]
        refine wpL_take 11 75 (.pointer (some ⟨b0 + 1, 0, none⟩)) [12, 13, 14, 15, 16] rfl rfl (by kernel_rfl) (by decide) (by kernel_rfl) (by kernel_rfl) (by kernel_rfl) (fun _ _ _ h => h) HRD.out (by rfl) (fun W hW => by go_simp) ?_
        simp only [Act.put, List.setIfInBounds_toArray, List.set_cons_zero, List.set_cons_succ]
        refine wpL_take 12 76 (.pointer (some ⟨b0 + 1, 0, none⟩)) [13, 14, 15, 16] rfl rfl (by kernel_rfl) (by decide) (by kernel_rfl) (by kernel_rfl) (by kernel_rfl) (fun _ _ _ h => h) HRD.out (by rfl) (fun W hW => by go_simp) ?_
        simp only [Act.put, List.setIfInBounds_toArray, List.set_cons_zero, List.set_cons_succ]
        refine wpL_take 13 77 (.pointer (some ⟨b0 + 1, 266, none⟩)) [14, 15, 16] rfl rfl (by kernel_rfl) (by decide) (by kernel_rfl) (by kernel_rfl) (by kernel_rfl) (fun _ _ _ h => h) HRD.out (by rfl) (fun W hW => by go_simp) ?_
        simp only [Act.put, List.setIfInBounds_toArray, List.set_cons_zero, List.set_cons_succ]
        refine wpL_take 14 78 (.slice ao1 n1 cap1) [15, 16] rfl rfl (by kernel_rfl) (by decide) (by kernel_rfl) (by kernel_rfl) (by kernel_rfl) (fun _ _ _ h => h) HRD.out (by rfl) (fun W hW => by have s2 := hW.ans.2; go_simp) ?_
        simp only [Act.put, List.setIfInBounds_toArray, List.set_cons_zero, List.set_cons_succ]
        refine wpL_take 15 79 (.agg (resC 4 j s.C s.M (.slice ao1 n1 cap1)).toArray) [16] rfl rfl (by kernel_rfl) (by decide) (by kernel_rfl) (by kernel_rfl) (by kernel_rfl) (fun _ _ _ h => h) HRD.out (by rfl) (fun W hW => by have s3 := build_res W 4 j hW.rg ⟨s.M.toArray⟩ ao1 n1 cap1; refine exec_build (qs := #[(0, i64 (4 : Nat)), (1, i64 (j : Nat)), (2, cpV s.C), (3, .string ⟨s.M.toArray⟩), (4, .slice ao1 n1 cap1)]) rfl ?_ s3; kernel_rfl) ?_
        simp only [Act.put, List.setIfInBounds_toArray, List.set_cons_zero, List.set_cons_succ]
        obtain ⟨e1, e2, e3, e4, e5⟩ := run_end (hh := 4) (j := j) HLO.out HRA.out HOW.out
        have E1 := hid e1
        have E2 := hid e2
        have E3 := hid e3
        have E4 := hid e4
        have E5 := hid e5
        clear e1 e2 e3 e4 e5
        refine wpL_one 16 rfl (by kernel_rfl) (by rfl) (fun K hK => ?_)
        refine wp_store_mid 33 (.tmp 8) (.tmp 79) rfl b0 0 (resC 4 j s.C s.M (.slice ao1 n1 cap1)).toArray rfl rfl (by rw [List.size_toArray, resC_len hC]; exact E4.out) (by rw [List.size_toArray, resC_len hC]; exact infoR33) (res_one _ _ _ _ _ _ _) ?_
        refine hK.out _ _ (fun _ => E5.out) ?_
        clear hK K
        refine wpL_one 17 rfl (by kernel_rfl) (by rfl) (fun K hK => ?_)
        go_simp
        refine hK.out _ _ (fun h => absurd rfl h) ?_
        clear hK K
        refine wpL_done (by kernel_rfl) ?_
        refine NoPanic.normal ?_
        go_wp2_with fail
        exact bodyPost_ret (results_run rfl rfl E1.out) rfl (by unfold RunPost; rw [HFI.out]; exact ⟨_, rfl, E2.out, E3.out⟩)
      · have h0I : (hN : Int) ≠ 0 := by omega
        have hhw : hwP hN = hN := by unfold hwP; rw [if_neg h0]
        have HHW := hid hhw
        clear hhw
        go_upto_region 14 with fail
        refine wp_region_noPanic ?_
        refine wp_region_last (fun W => RunAt W (b0 + 1) s.C s.M va (.slice ao1 n1 cap1)) 17 (by kernel_rfl) ?_
        refine wpL_take 0 64 (i64 (hN : Nat)) [15, 16] rfl rfl (by kernel_rfl) (by decide) (by kernel_rfl) (by kernel_rfl) (by kernel_rfl) (fun _ _ _ h => h) HRD.out (by rfl) (fun W hW => by go_simp) ?_
        simp only [Act.put, List.setIfInBounds_toArray, List.set_cons_zero, List.set_cons_succ]
        refine wpL_take 1 65 (i64 (j : Nat)) [15, 16] rfl rfl (by kernel_rfl) (by decide) (by kernel_rfl) (by kernel_rfl) (by kernel_rfl) (fun _ _ _ h => h) HRD.out (by rfl) (fun W hW => by go_simp) ?_
        simp only [Act.put, List.setIfInBounds_toArray, List.set_cons_zero, List.set_cons_succ]
        refine wpL_take 2 66 (.pointer (some ⟨b0 + 1, 0, none⟩)) [3, 4, 5, 15, 16] rfl rfl (by kernel_rfl) (by decide) (by kernel_rfl) (by kernel_rfl) (by kernel_rfl) (fun _ _ _ h => h) HRD.out (by rfl) (fun W hW => by go_simp) ?_
        simp only [Act.put, List.setIfInBounds_toArray, List.set_cons_zero, List.set_cons_succ]
        refine wpL_take 3 67 (.pointer (some ⟨b0 + 1, 0, none⟩)) [4, 5, 15, 16] rfl rfl (by kernel_rfl) (by decide) (by kernel_rfl) (by kernel_rfl) (by kernel_rfl) (fun _ _ _ h => h) HRD.out (by rfl) (fun W hW => by go_simp) ?_
        simp only [Act.put, List.setIfInBounds_toArray, List.set_cons_zero, List.set_cons_succ]
        refine wpL_take 4 68 (.pointer (some ⟨b0 + 1, 0, none⟩)) [5, 15, 16] rfl rfl (by kernel_rfl) (by decide) (by kernel_rfl) (by kernel_rfl) (by kernel_rfl) (fun _ _ _ h => h) HRD.out (by rfl) (fun W hW => by go_simp) ?_
        simp only [Act.put, List.setIfInBounds_toArray, List.set_cons_zero, List.set_cons_succ]
        refine wpL_take 5 69 (cpV s.C) [15, 16] rfl rfl (by kernel_rfl) (by decide) (by kernel_rfl) (by kernel_rfl) (by kernel_rfl) (fun _ _ _ h => h) HRD.out (by rfl) (fun W hW => by exact exec_load 30 (.tmp 68) rfl rfl (run_loadVar_mid _ _ 0 30 _ _ hW.range Tryd.underlying30 rfl (cpC_info hW.rg))) ?_
        simp only [Act.put, List.setIfInBounds_toArray, List.set_cons_zero, List.set_cons_succ]
        refine wpL_take 6 70 (.pointer (some ⟨b0 + 1, 0, none⟩)) [7, 8, 9, 10, 15, 16] rfl rfl (by kernel_rfl) (by decide) (by kernel_rfl) (by kernel_rfl) (by kernel_rfl) (fun _ _ _ h => h) HRD.out (by rfl) (fun W hW => by go_simp) ?_
        simp only [Act.put, List.setIfInBounds_toArray, List.set_cons_zero, List.set_cons_succ]
        refine wpL_take 7 71 (.pointer (some ⟨b0 + 1, 0, none⟩)) [8, 9, 10, 15, 16] rfl rfl (by kernel_rfl) (by decide) (by kernel_rfl) (by kernel_rfl) (by kernel_rfl) (fun _ _ _ h => h) HRD.out (by rfl) (fun W hW => by go_simp) ?_
        simp only [Act.put, List.setIfInBounds_toArray, List.set_cons_zero, List.set_cons_succ]
        refine wpL_take 8 72 (.pointer (some ⟨b0 + 1, 9, none⟩)) [9, 10, 15, 16] rfl rfl (by kernel_rfl) (by decide) (by kernel_rfl) (by kernel_rfl) (by kernel_rfl) (fun _ _ _ h => h) HRD.out (by rfl) (fun W hW => by go_simp) ?_
        simp only [Act.put, List.setIfInBounds_toArray, List.set_cons_zero, List.set_cons_succ]
        refine wpL_take 9 73 (.slice (some ⟨b0 + 1, 9, none⟩) 256 256) [10, 15, 16] rfl rfl (by kernel_rfl) (by decide) (by kernel_rfl) (by kernel_rfl) (by kernel_rfl) (fun _ _ _ h => h) HRD.out (by rfl) (fun W hW => by go_simp) ?_
        simp only [Act.put, List.setIfInBounds_toArray, List.set_cons_zero, List.set_cons_succ]
        refine wpL_take 10 74 (.string ⟨s.M.toArray⟩) [15, 16] rfl rfl (by kernel_rfl) (by decide) (by kernel_rfl) (by kernel_rfl) (by kernel_rfl) (fun _ _ _ h => h) HRD.out (by rfl) (fun W hW => by have s1 := hW.conv; go_simp) ?_
        simp only [Act.put, List.setIfInBounds_toArray, List.set_cons_zero, List.set_cons_succ]
        refine wpL_take 11 75 (.pointer (some ⟨b0 + 1, 0, none⟩)) [12, 13, 14, 15, 16] rfl rfl (by kernel_rfl) (by decide) (by kernel_rfl) (by kernel_rfl) (by kernel_rfl) (fun _ _ _ h => h) HRD.out (by rfl) (fun W hW => by go_simp) ?_
        simp only [Act.put, List.setIfInBounds_toArray, List.set_cons_zero, List.set_cons_succ]
        refine wpL_take 12 76 (.pointer (some ⟨b0 + 1, 0, none⟩)) [13, 14, 15, 16] rfl rfl (by kernel_rfl) (by decide) (by kernel_rfl) (by kernel_rfl) (by kernel_rfl) (fun _ _ _ h => h) HRD.out (by rfl) (fun W hW => by go_simp) ?_
        simp only [Act.put, List.setIfInBounds_toArray, List.set_cons_zero, List.set_cons_succ]
        refine wpL_take 13 77 (.pointer (some ⟨b0 + 1, 266, none⟩)) [14, 15, 16] rfl rfl (by kernel_rfl) (by decide) (by kernel_rfl) (by kernel_rfl) (by kernel_rfl) (fun _ _ _ h => h) HRD.out (by rfl) (fun W hW => by go_simp) ?_
        simp only [Act.put, List.setIfInBounds_toArray, List.set_cons_zero, List.set_cons_succ]
        refine wpL_take 14 78 (.slice ao1 n1 cap1) [15, 16] rfl rfl (by kernel_rfl) (by decide) (by kernel_rfl) (by kernel_rfl) (by kernel_rfl) (fun _ _ _ h => h) HRD.out (by rfl) (fun W hW => by have s2 := hW.ans.2; go_simp) ?_
        simp only [Act.put, List.setIfInBounds_toArray, List.set_cons_zero, List.set_cons_succ]
        refine wpL_take 15 79 (.agg (resC hN j s.C s.M (.slice ao1 n1 cap1)).toArray) [16] rfl rfl (by kernel_rfl) (by decide) (by kernel_rfl) (by kernel_rfl) (by kernel_rfl) (fun _ _ _ h => h) HRD.out (by rfl) (fun W hW => by have s3 := build_res W hN j hW.rg ⟨s.M.toArray⟩ ao1 n1 cap1; refine exec_build (qs := #[(0, i64 (hN : Nat)), (1, i64 (j : Nat)), (2, cpV s.C), (3, .string ⟨s.M.toArray⟩), (4, .slice ao1 n1 cap1)]) rfl ?_ s3; kernel_rfl) ?_
        simp only [Act.put, List.setIfInBounds_toArray, List.set_cons_zero, List.set_cons_succ]
        obtain ⟨e1, e2, e3, e4, e5⟩ := run_end (hh := hN) (j := j) HLO.out HRA.out HOW.out
        have E1 := hid e1
        have E2 := hid e2
        have E3 := hid e3
        have E4 := hid e4
        have E5 := hid e5
        clear e1 e2 e3 e4 e5
        refine wpL_one 16 rfl (by kernel_rfl) (by rfl) (fun K hK => ?_)
        refine wp_store_mid 33 (.tmp 8) (.tmp 79) rfl b0 0 (resC hN j s.C s.M (.slice ao1 n1 cap1)).toArray rfl rfl (by rw [List.size_toArray, resC_len hC]; exact E4.out) (by rw [List.size_toArray, resC_len hC]; exact infoR33) (res_one _ _ _ _ _ _ _) ?_
        refine hK.out _ _ (fun _ => E5.out) ?_
        clear hK K
        refine wpL_one 17 rfl (by kernel_rfl) (by rfl) (fun K hK => ?_)
        go_simp
        refine hK.out _ _ (fun h => absurd rfl h) ?_
        clear hK K
        refine wpL_done (by kernel_rfl) ?_
        refine NoPanic.normal ?_
        go_wp2_with fail
        exact bodyPost_ret (results_run rfl rfl E1.out) rfl (by unfold RunPost; rw [HFI.out, HHW.out]; exact ⟨_, rfl, E2.out, E3.out⟩)
end Go.Proofs.YtigbfdloodfdgaaDoor
