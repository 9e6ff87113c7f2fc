/- No statement here. -/
import Derived.Test.YtnknhencobhjdaaMDb
set_option maxRecDepth 100000
namespace Go.Proofs.Ytnknhencobhjdaa
open Go.ChangeShapes Go.WideShapes Go.ChangeAt Go.RowKit Go.Deep
open Go.Proofs.Ytnknhencobhjdaa.Cp (pq hid bl1)
open Go.Proofs.Ytnknhencobhjdaa.Qt (wpList_app_run)
attribute [local go_sem ↓] Go.wp_at_zero Go.wp_at_succ
theorem three_sh (w : World) (sl gn tt rights : Int) : Below w.heap.size w (((w.alloc (.cells #[i64 sl, i64 gn] 81)).alloc (.cells #[i64 tt, i64 rights] 90)).alloc (gtO 0 0 0 0)) ∧ (((w.alloc (.cells #[i64 sl, i64 gn] 81)).alloc (.cells #[i64 tt, i64 rights] 90)).alloc (gtO 0 0 0 0)).heap[w.heap.size]? = some (.cells #[i64 sl, i64 gn] 81) ∧ (((w.alloc (.cells #[i64 sl, i64 gn] 81)).alloc (.cells #[i64 tt, i64 rights] 90)).alloc (gtO 0 0 0 0)).heap[w.heap.size + 1]? = some (.cells #[i64 tt, i64 rights] 90) ∧ (((w.alloc (.cells #[i64 sl, i64 gn] 81)).alloc (.cells #[i64 tt, i64 rights] 90)).alloc (gtO 0 0 0 0)).heap[w.heap.size + 2]? = some (gtO 0 0 0 0) := by
  refine ⟨(bl1 w _).trans (((bl1 _ _).trans ((bl1 _ _).mono (by simp))).mono (by simp)), bka (bka (hlx w _) _) _, bka ?_ _, ?_⟩
  · have := hlx (w.alloc (.cells #[i64 sl, i64 gn] 81)) (.cells #[i64 tt, i64 rights] 90)
    rwa [show (w.alloc (.cells #[i64 sl, i64 gn] 81)).heap.size = w.heap.size + 1 by simp] at this
  · have := hlx ((w.alloc (.cells #[i64 sl, i64 gn] 81)).alloc (.cells #[i64 tt, i64 rights] 90)) (gtO 0 0 0 0)
    rwa [show ((w.alloc (.cells #[i64 sl, i64 gn] 81)).alloc (.cells #[i64 tt, i64 rights] 90)).heap.size = w.heap.size + 2 by simp] at this
structure SqH (d kc X0 X1 : Nat) (sl gn tt rights : Int) (W : World) : Prop where
  d0 : W.cell? ⟨d, 0, none⟩ = some (pq kc)
  q : W.heap[X0]? = some (.cells #[i64 sl, i64 gn] 81)
  r : W.heap[X1]? = some (.cells #[i64 tt, i64 rights] 90)
theorem SqH.below {d kc X0 X1 : Nat} {sl gn tt rights : Int} {W W' : World} (h : SqH d kc X0 X1 sl gn tt rights W) (hb : Below W.heap.size W W') : SqH d kc X0 X1 sl gn tt rights W' :=
  ⟨by rw [World.cell?_of_block (w := W) (hb.block _ (World.block_lt_of_cell? W _ h.d0))]; exact h.d0, bkb h.q hb, bkb h.r hb⟩
theorem SqH.fr {d kc X0 X1 base : Nat} {sl gn tt rights : Int} {W W' : World} (h : SqH d kc X0 X1 sl gn tt rights W) (hf : Fr base [99, 96] W W') (hd : ∃ kb vR vP, W.heap[d]? = some (ddO kc kb vR vP)) : SqH d kc X0 X1 sl gn tt rights W' := by
  obtain ⟨kb, vR, vP, hd⟩ := hd
  exact ⟨bkc (hf.kept _ _ hd rfl) 0, hf.kept _ _ h.q rfl, hf.kept _ _ h.r rfl⟩
theorem Dd.has {w : World} {base d : Nat} {y : Dx} {t : Qt.T} {s : Qt.St} {C : List Cp.Rw} {Rs : List Rt} {P : List Int} (h : Dd w base d y t s C Rs P) : ∃ kb vR vP, w.heap[d]? = some (ddO y.kc kb vR vP) := by
  obtain ⟨ao, cap, pc, hb, _⟩ := h.row
  exact ⟨_, _, _, hb⟩
section
variable {w U : World} {base d : Nat} {y : Dx} {t : Qt.T} {s : Qt.St} {C : List Cp.Rw} {Rs : List Rt} {P : List Int} {pb : Option Nat}
theorem Dd.set130 (h : Dd U base d y t s C Rs P) {b : Nat} {A : Array Value} (hG : U.heap[b]? = some (.cells A 130)) (x1 x2 x3 : Value) : Dd (((U.setCell ⟨b, 0, none⟩ x1).setCell ⟨b, 1, none⟩ x2).setCell ⟨b, 2, none⟩ x3) base d y t s C Rs P :=
  h.same fun k o hk ho => by
    have hne : k ≠ b := fun e => by
      rw [e, hG] at hk
      cases hk
      simp [isD] at ho
    rw [Below.heap_setCell _ _ _ _ hne, Below.heap_setCell _ _ _ _ hne, Below.heap_setCell _ _ _ _ hne]
    exact hk
theorem Df.set130 (h : Df base pb w U) (hlo : base ≤ w.heap.size) {b : Nat} (hb : w.heap.size ≤ b) (x1 x2 x3 : Value) : Df base pb w (((U.setCell ⟨b, 0, none⟩ x1).setCell ⟨b, 1, none⟩ x2).setCell ⟨b, 2, none⟩ x3) :=
  ⟨((h.below.setCell (by show base ≤ b; omega) _).setCell (by show base ≤ b; omega) _).setCell (by show base ≤ b; omega) _, fun k o hk ho => by
    have hne : k ≠ b := by have := blk_lt hk; omega
    rw [Below.heap_setCell _ _ _ _ hne, Below.heap_setCell _ _ _ _ hne, Below.heap_setCell _ _ _ _ hne]
    exact h.kept k o hk ho⟩
end
set_option maxHeartbeats 4000000 in
theorem rshare_stale {w : World} {base d : Nat} {y : Dx} {t : Qt.T} {s : Qt.St} {C : List Cp.Rw} {Rs : List Rt} {P : List Int} (h : Dd w base d y t s C Rs P) (hcl : C.length ≤ 900) (hpl : P.length = C.length) (env sl gn tt rights : Int) (hf : Cp.fdI C env sl gn = -1) :
    Calls Try.prog 38 #[pq d, i64 env, .agg #[i64 sl, i64 gn], .agg #[i64 tt, i64 rights]] w fun e w' => e = .returned (.agg #[i64 0, i64 0, i64 0, i64 90]) ∧ Below w.heap.size w w' := by
  obtain ⟨V, hV⟩ : ∃ V, V = ((w.alloc (.cells #[i64 sl, i64 gn] 81)).alloc (.cells #[i64 tt, i64 rights] 90)).alloc (gtO 0 0 0 0) := ⟨_, rfl⟩
  have HV : Hid (((w.alloc (.cells #[i64 sl, i64 gn] 81)).alloc (.cells #[i64 tt, i64 rights] 90)).alloc (.cells #[i64 0, i64 0, i64 0, i64 0] 83) = V) := hV.symm
  obtain ⟨hbV, hq, hrr, hg⟩ := three_sh w sl gn tt rights
  rw [← hV] at hbV hq hrr hg
  have HBV := hid hbV
  have HH := hid h
  have hlo := h.lo'
  have HG := hid hg
  have HDV := hid (h.below hbV)
  obtain ⟨ao0, cap0, pc0, hbk, _⟩ := HDV.out.row
  have HS : Hid (SqH d y.kc (w.heap.size) (w.heap.size + 1) sl gn tt rights V.drew) := ⟨bkc hbk 0, hq, hrr⟩
  have HA0 := hid (Cp.rfind_ok HDV.out.drew.cp (by omega) env sl gn)
  rw [hf] at HA0
  have HA := HA0
  clear HA0 h hV hbV hq hrr hg hbk hf
  go_enter Try.func38, Try.ntmps38
  go_upto_region 1 with fail
  rw [HV.out]
  refine wp_region_noPanic ?_
  refine wrl (SqH d y.kc (w.heap.size) (w.heap.size + 1) sl gn tt rights) 7 (by kernel_rfl) ?_
  refine wkp 0 10 (.pointer (some ⟨d, 0, none⟩)) [1, 2, 3, 6] rfl HS.out (fun W hW => by have q0 := bkc hW.q 0; have q1 := bkc hW.q 1; have r0 := bkc hW.r 0; have r1 := bkc hW.r 1; have d0 := hW.d0; go_simp) ?_
  refine wkp 1 11 (.pointer (some ⟨d, 0, none⟩)) [2, 3, 6] rfl HS.out (fun W hW => by have q0 := bkc hW.q 0; have q1 := bkc hW.q 1; have r0 := bkc hW.r 0; have r1 := bkc hW.r 1; have d0 := hW.d0; go_simp) ?_
  refine wkp 2 12 (.pointer (some ⟨d, 0, none⟩)) [3, 6] rfl HS.out (fun W hW => by have q0 := bkc hW.q 0; have q1 := bkc hW.q 1; have r0 := bkc hW.r 0; have r1 := bkc hW.r 1; have d0 := hW.d0; go_simp) ?_
  refine wkp 3 13 (.pointer (some ⟨y.kc, 0, none⟩)) [6] rfl HS.out (fun W hW => by have q0 := bkc hW.q 0; have q1 := bkc hW.q 1; have r0 := bkc hW.r 0; have r1 := bkc hW.r 1; have d0 := hW.d0; go_simp) ?_
  refine wkp 4 14 (i64 env) [6] rfl HS.out (fun W hW => by have q0 := bkc hW.q 0; have q1 := bkc hW.q 1; have r0 := bkc hW.r 0; have r1 := bkc hW.r 1; have d0 := hW.d0; go_simp) ?_
  refine wkp 5 15 (.agg #[i64 sl, i64 gn]) [6] rfl HS.out (fun W hW => by have q0 := bkc hW.q 0; have q1 := bkc hW.q 1; have r0 := bkc hW.r 0; have r1 := bkc hW.r 1; have d0 := hW.d0; go_simp) ?_
  simp only [Act.put, sA, sZ, sS]
  refine wo 6 rfl (fun K hK => ?_)
  go_simp
  refine HA.out.mono ?_
  rintro e w1 ⟨rfl, hb1⟩
  have HS1 : Hid (SqH d y.kc (w.heap.size) (w.heap.size + 1) sl gn tt rights w1) := HS.out.below hb1
  have HB1 : Hid (Below V.heap.size V w1) := below_drew hb1
  clear hb1 HA HS
  go_simp
  refine hK.out _ _ (fun _ => HS1.out) ?_
  clear hK K
  refine wo 7 rfl (fun K hK => ?_)
  go_simp
  refine hK.out _ _ (fun h => absurd rfl h) ?_
  clear hK K
  refine wdd ?_
  refine NoPanic.normal ?_
  have HG1 := hid (bkb HG.out HB1.out)
  have HBw1 : Hid (Below w.heap.size w w1) := HBV.out.trans (HB1.out.mono HBV.out.size)
  have g0 : w1.cell? ⟨w.heap.size + 2, 0, none⟩ = some (i64 0) := bkc HG1.out 0
  have g1 : w1.cell? ⟨w.heap.size + 2, 1, none⟩ = some (i64 0) := bkc HG1.out 1
  have g2 : w1.cell? ⟨w.heap.size + 2, 2, none⟩ = some (i64 0) := bkc HG1.out 2
  have g3 : w1.cell? ⟨w.heap.size + 2, 3, none⟩ = some (i64 0) := bkc HG1.out 3
  have gf : ∀ j, w1.frozen? ⟨w.heap.size + 2, j, none⟩ = false := bkf HG1.out
  go_wp2_with fail
  exact bodyPost_ret (Cp.results_one Try.results38 rfl (load83 (set83 HG1.out 0 0 0 90))) rfl ⟨rfl, bel83 (HBw1.out) (by omega) _ _ _ _⟩
set_option maxHeartbeats 4000000 in
theorem rshare_env {w : World} {base d : Nat} {y : Dx} {t : Qt.T} {s : Qt.St} {C : List Cp.Rw} {Rs : List Rt} {P : List Int} (h : Dd w base d y t s C Rs P) (hcl : C.length ≤ 900) (hpl : P.length = C.length) (env sl gn tt rights : Int) (k : Nat) (hf : Cp.fdI C env sl gn = k) (hop : opB s tt = false) :
    Calls Try.prog 38 #[pq d, i64 env, .agg #[i64 sl, i64 gn], .agg #[i64 tt, i64 rights]] w fun e w' => e = .returned (.agg #[i64 0, i64 0, i64 0, i64 6]) ∧ Below w.heap.size w w' := by
  obtain ⟨V, hV⟩ : ∃ V, V = ((w.alloc (.cells #[i64 sl, i64 gn] 81)).alloc (.cells #[i64 tt, i64 rights] 90)).alloc (gtO 0 0 0 0) := ⟨_, rfl⟩
  have HV : Hid (((w.alloc (.cells #[i64 sl, i64 gn] 81)).alloc (.cells #[i64 tt, i64 rights] 90)).alloc (.cells #[i64 0, i64 0, i64 0, i64 0] 83) = V) := hV.symm
  obtain ⟨hbV, hq, hrr, hg⟩ := three_sh w sl gn tt rights
  rw [← hV] at hbV hq hrr hg
  have HBV := hid hbV
  have HH := hid h
  have hlo := h.lo'
  have HG := hid hg
  have HDV := hid (h.below hbV)
  obtain ⟨ao0, cap0, pc0, hbk, _⟩ := HDV.out.row
  have HS : Hid (SqH d y.kc (w.heap.size) (w.heap.size + 1) sl gn tt rights V.drew) := ⟨bkc hbk 0, hq, hrr⟩
  have HA0 := hid (Cp.rfind_ok HDV.out.drew.cp (by omega) env sl gn)
  have HOp0 : Hid (∀ W, Below w.heap.size w W → Calls Try.prog 21 #[pq d, i64 tt] W fun e w' => e = .returned (.bool (opB s tt)) ∧ Below W.heap.size W w') := fun W hW => ropn_ok (h.below hW) tt
  rw [hop] at HOp0
  have hdk : decide ((k : Int) < 0) = false := decide_eq_false (by omega)
  clear hop
  rw [hf] at HA0
  have HA := HA0
  clear HA0 h hV hbV hq hrr hg hbk hf
  go_enter Try.func38, Try.ntmps38
  go_upto_region 1 with fail
  rw [HV.out]
  refine wp_region_noPanic ?_
  refine wrl (SqH d y.kc (w.heap.size) (w.heap.size + 1) sl gn tt rights) 7 (by kernel_rfl) ?_
  refine wkp 0 10 (.pointer (some ⟨d, 0, none⟩)) [1, 2, 3, 6] rfl HS.out (fun W hW => by have q0 := bkc hW.q 0; have q1 := bkc hW.q 1; have r0 := bkc hW.r 0; have r1 := bkc hW.r 1; have d0 := hW.d0; go_simp) ?_
  refine wkp 1 11 (.pointer (some ⟨d, 0, none⟩)) [2, 3, 6] rfl HS.out (fun W hW => by have q0 := bkc hW.q 0; have q1 := bkc hW.q 1; have r0 := bkc hW.r 0; have r1 := bkc hW.r 1; have d0 := hW.d0; go_simp) ?_
  refine wkp 2 12 (.pointer (some ⟨d, 0, none⟩)) [3, 6] rfl HS.out (fun W hW => by have q0 := bkc hW.q 0; have q1 := bkc hW.q 1; have r0 := bkc hW.r 0; have r1 := bkc hW.r 1; have d0 := hW.d0; go_simp) ?_
  refine wkp 3 13 (.pointer (some ⟨y.kc, 0, none⟩)) [6] rfl HS.out (fun W hW => by have q0 := bkc hW.q 0; have q1 := bkc hW.q 1; have r0 := bkc hW.r 0; have r1 := bkc hW.r 1; have d0 := hW.d0; go_simp) ?_
  refine wkp 4 14 (i64 env) [6] rfl HS.out (fun W hW => by have q0 := bkc hW.q 0; have q1 := bkc hW.q 1; have r0 := bkc hW.r 0; have r1 := bkc hW.r 1; have d0 := hW.d0; go_simp) ?_
  refine wkp 5 15 (.agg #[i64 sl, i64 gn]) [6] rfl HS.out (fun W hW => by have q0 := bkc hW.q 0; have q1 := bkc hW.q 1; have r0 := bkc hW.r 0; have r1 := bkc hW.r 1; have d0 := hW.d0; go_simp) ?_
  simp only [Act.put, sA, sZ, sS]
  refine wo 6 rfl (fun K hK => ?_)
  go_simp
  refine HA.out.mono ?_
  rintro e w1 ⟨rfl, hb1⟩
  have HS1 : Hid (SqH d y.kc (w.heap.size) (w.heap.size + 1) sl gn tt rights w1) := HS.out.below hb1
  have HB1 : Hid (Below V.heap.size V w1) := below_drew hb1
  clear hb1 HA HS
  go_simp
  refine hK.out _ _ (fun _ => HS1.out) ?_
  clear hK K
  refine wo 7 rfl (fun K hK => ?_)
  go_simp
  refine hK.out _ _ (fun h => absurd rfl h) ?_
  clear hK K
  refine wdd ?_
  refine NoPanic.normal ?_
  have HG1 := hid (bkb HG.out HB1.out)
  have HBw1 : Hid (Below w.heap.size w w1) := HBV.out.trans (HB1.out.mono HBV.out.size)
  have r0 : w1.cell? ⟨w.heap.size + 1, 0, none⟩ = some (i64 tt) := bkc HS1.out.r 0
  go_wp2_with fail
  refine (HOp0.out w1 HBw1.out).mono ?_
  rintro e w2 ⟨rfl, hb2⟩
  have HG2 := hid (bkb HG1.out hb2)
  have HS2 : Hid (SqH d y.kc (w.heap.size) (w.heap.size + 1) sl gn tt rights w2) := HS1.out.below hb2
  have HBw2 : Hid (Below w.heap.size w w2) := HBw1.out.trans (hb2.mono HBw1.out.size)
  clear hb2 r0 HG1 HS1 HBw1 HB1
  have g0 : w2.cell? ⟨w.heap.size + 2, 0, none⟩ = some (i64 0) := bkc HG2.out 0
  have g1 : w2.cell? ⟨w.heap.size + 2, 1, none⟩ = some (i64 0) := bkc HG2.out 1
  have g2 : w2.cell? ⟨w.heap.size + 2, 2, none⟩ = some (i64 0) := bkc HG2.out 2
  have g3 : w2.cell? ⟨w.heap.size + 2, 3, none⟩ = some (i64 0) := bkc HG2.out 3
  have gf : ∀ j, w2.frozen? ⟨w.heap.size + 2, j, none⟩ = false := bkf HG2.out
  go_wp2_with fail
  exact bodyPost_ret (Cp.results_one Try.results38 rfl (load83 (set83 HG2.out 0 0 0 6))) rfl ⟨rfl, bel83 (HBw2.out) (by omega) _ _ _ _⟩
set_option maxHeartbeats 4000000 in
theorem rshare_full {w : World} {base d : Nat} {y : Dx} {t : Qt.T} {s : Qt.St} {C : List Cp.Rw} {Rs : List Rt} {P : List Int} (h : Dd w base d y t s C Rs P) (hcl : C.length ≤ 900) (hpl : P.length = C.length) (env sl gn tt rights : Int) (k : Nat) (hf : Cp.fdI C env sl gn = k) (hop : opB s tt = true) (hfu : 42 ≤ pdN C P env) :
    Calls Try.prog 38 #[pq d, i64 env, .agg #[i64 sl, i64 gn], .agg #[i64 tt, i64 rights]] w fun e w' => e = .returned (.agg #[i64 0, i64 0, i64 0, i64 5]) ∧ Below w.heap.size w w' := by
  obtain ⟨V, hV⟩ : ∃ V, V = ((w.alloc (.cells #[i64 sl, i64 gn] 81)).alloc (.cells #[i64 tt, i64 rights] 90)).alloc (gtO 0 0 0 0) := ⟨_, rfl⟩
  have HV : Hid (((w.alloc (.cells #[i64 sl, i64 gn] 81)).alloc (.cells #[i64 tt, i64 rights] 90)).alloc (.cells #[i64 0, i64 0, i64 0, i64 0] 83) = V) := hV.symm
  obtain ⟨hbV, hq, hrr, hg⟩ := three_sh w sl gn tt rights
  rw [← hV] at hbV hq hrr hg
  have HBV := hid hbV
  have HH := hid h
  have hlo := h.lo'
  have HG := hid hg
  have HDV := hid (h.below hbV)
  obtain ⟨ao0, cap0, pc0, hbk, _⟩ := HDV.out.row
  have HS : Hid (SqH d y.kc (w.heap.size) (w.heap.size + 1) sl gn tt rights V.drew) := ⟨bkc hbk 0, hq, hrr⟩
  have HA0 := hid (Cp.rfind_ok HDV.out.drew.cp (by omega) env sl gn)
  have HOp0 : Hid (∀ W, Below w.heap.size w W → Calls Try.prog 21 #[pq d, i64 tt] W fun e w' => e = .returned (.bool (opB s tt)) ∧ Below W.heap.size W w') := fun W hW => ropn_ok (h.below hW) tt
  have HPd : Hid (∀ W, Below w.heap.size w W → Calls Try.prog 42 #[pq d, i64 env] W fun e w' => e = .returned (i64 (pdN C P env : Nat)) ∧ Below W.heap.size W w') := fun W hW => rpaid_ok (h.below hW) (by omega) hpl env
  have hpdL : (pdN C P env : Int) ≤ 1000 := by have := Cp.cnt_le P.length (pdB C P env); unfold pdN; omega
  rw [hop] at HOp0
  have hdk : decide ((k : Int) < 0) = false := decide_eq_false (by omega)
  have hpd : (42 : Int) ≤ (pdN C P env : Int) := by omega
  clear hop hfu
  generalize pdN C P env = pd at *
  rw [hf] at HA0
  have HA := HA0
  clear HA0 h hV hbV hq hrr hg hbk hf
  go_enter Try.func38, Try.ntmps38
  go_upto_region 1 with fail
  rw [HV.out]
  refine wp_region_noPanic ?_
  refine wrl (SqH d y.kc (w.heap.size) (w.heap.size + 1) sl gn tt rights) 7 (by kernel_rfl) ?_
  refine wkp 0 10 (.pointer (some ⟨d, 0, none⟩)) [1, 2, 3, 6] rfl HS.out (fun W hW => by have q0 := bkc hW.q 0; have q1 := bkc hW.q 1; have r0 := bkc hW.r 0; have r1 := bkc hW.r 1; have d0 := hW.d0; go_simp) ?_
  refine wkp 1 11 (.pointer (some ⟨d, 0, none⟩)) [2, 3, 6] rfl HS.out (fun W hW => by have q0 := bkc hW.q 0; have q1 := bkc hW.q 1; have r0 := bkc hW.r 0; have r1 := bkc hW.r 1; have d0 := hW.d0; go_simp) ?_
  refine wkp 2 12 (.pointer (some ⟨d, 0, none⟩)) [3, 6] rfl HS.out (fun W hW => by have q0 := bkc hW.q 0; have q1 := bkc hW.q 1; have r0 := bkc hW.r 0; have r1 := bkc hW.r 1; have d0 := hW.d0; go_simp) ?_
  refine wkp 3 13 (.pointer (some ⟨y.kc, 0, none⟩)) [6] rfl HS.out (fun W hW => by have q0 := bkc hW.q 0; have q1 := bkc hW.q 1; have r0 := bkc hW.r 0; have r1 := bkc hW.r 1; have d0 := hW.d0; go_simp) ?_
  refine wkp 4 14 (i64 env) [6] rfl HS.out (fun W hW => by have q0 := bkc hW.q 0; have q1 := bkc hW.q 1; have r0 := bkc hW.r 0; have r1 := bkc hW.r 1; have d0 := hW.d0; go_simp) ?_
  refine wkp 5 15 (.agg #[i64 sl, i64 gn]) [6] rfl HS.out (fun W hW => by have q0 := bkc hW.q 0; have q1 := bkc hW.q 1; have r0 := bkc hW.r 0; have r1 := bkc hW.r 1; have d0 := hW.d0; go_simp) ?_
  simp only [Act.put, sA, sZ, sS]
  refine wo 6 rfl (fun K hK => ?_)
  go_simp
  refine HA.out.mono ?_
  rintro e w1 ⟨rfl, hb1⟩
  have HS1 : Hid (SqH d y.kc (w.heap.size) (w.heap.size + 1) sl gn tt rights w1) := HS.out.below hb1
  have HB1 : Hid (Below V.heap.size V w1) := below_drew hb1
  clear hb1 HA HS
  go_simp
  refine hK.out _ _ (fun _ => HS1.out) ?_
  clear hK K
  refine wo 7 rfl (fun K hK => ?_)
  go_simp
  refine hK.out _ _ (fun h => absurd rfl h) ?_
  clear hK K
  refine wdd ?_
  refine NoPanic.normal ?_
  have HG1 := hid (bkb HG.out HB1.out)
  have HBw1 : Hid (Below w.heap.size w w1) := HBV.out.trans (HB1.out.mono HBV.out.size)
  have r0 : w1.cell? ⟨w.heap.size + 1, 0, none⟩ = some (i64 tt) := bkc HS1.out.r 0
  go_wp2_with fail
  refine (HOp0.out w1 HBw1.out).mono ?_
  rintro e w2 ⟨rfl, hb2⟩
  have HG2 := hid (bkb HG1.out hb2)
  have HS2 : Hid (SqH d y.kc (w.heap.size) (w.heap.size + 1) sl gn tt rights w2) := HS1.out.below hb2
  have HBw2 : Hid (Below w.heap.size w w2) := HBw1.out.trans (hb2.mono HBw1.out.size)
  clear hb2 r0 HG1 HS1 HBw1 HB1
  go_wp2_with fail
  refine (HPd.out w2 HBw2.out).mono ?_
  rintro e w3 ⟨rfl, hb3⟩
  have HG3 := hid (bkb HG2.out hb3)
  have HS3 : Hid (SqH d y.kc (w.heap.size) (w.heap.size + 1) sl gn tt rights w3.drew) := ⟨(HS2.out.below hb3).d0, (HS2.out.below hb3).q, (HS2.out.below hb3).r⟩
  have HBw3 : Hid (Below w.heap.size w w3) := HBw2.out.trans (hb3.mono HBw2.out.size)
  clear hb3 HG2 HS2 HBw2
  have g0 : w3.cell? ⟨w.heap.size + 2, 0, none⟩ = some (i64 0) := bkc HG3.out 0
  have g1 : w3.cell? ⟨w.heap.size + 2, 1, none⟩ = some (i64 0) := bkc HG3.out 1
  have g2 : w3.cell? ⟨w.heap.size + 2, 2, none⟩ = some (i64 0) := bkc HG3.out 2
  have g3 : w3.cell? ⟨w.heap.size + 2, 3, none⟩ = some (i64 0) := bkc HG3.out 3
  have gf : ∀ j, w3.frozen? ⟨w.heap.size + 2, j, none⟩ = false := bkf HG3.out
  go_wp2_with fail
  exact bodyPost_ret (Cp.results_one Try.results38 rfl (load83 (set83 HG3.out 0 0 0 5))) rfl ⟨rfl, bel83 (HBw3.out) (by omega) _ _ _ _⟩
set_option maxHeartbeats 8000000 in
theorem rshare_no {w : World} {base d : Nat} {y : Dx} {t : Qt.T} {s : Qt.St} {C : List Cp.Rw} {Rs : List Rt} {P : List Int} (h : Dd w base d y t s C Rs P) (hcl : C.length ≤ 900) (hpl : P.length = C.length) (env sl gn tt rights : Int) (k : Nat) (hf : Cp.fdI C env sl gn = k) (hop : opB s tt = true) (hfu : pdN C P env < 42) (C1 : List Cp.Rw) (dv0 dv1 dv2 : Int) (hdr : ∀ W, Dd W base d y t s C Rs P → Calls Try.prog 71 #[pq y.kc, i64 env, .agg #[i64 sl, i64 gn], .agg #[i64 tt, i64 rights]] W fun e w' => e = .returned (.agg #[i64 dv0, i64 dv1, i64 dv2]) ∧ Dd w' base d y t s C1 Rs P ∧ Fr base [99, 96] W w') (hne : ¬ dv2 = 0) :
    Calls Try.prog 38 #[pq d, i64 env, .agg #[i64 sl, i64 gn], .agg #[i64 tt, i64 rights]] w fun e w' => e = .returned (.agg #[i64 0, i64 dv0, i64 dv1, i64 dv2]) ∧ Dd w' base d y t s C1 Rs P ∧ Df base y.pb w w' := by
  obtain ⟨V, hV⟩ : ∃ V, V = ((w.alloc (.cells #[i64 sl, i64 gn] 81)).alloc (.cells #[i64 tt, i64 rights] 90)).alloc (gtO 0 0 0 0) := ⟨_, rfl⟩
  have HV : Hid (((w.alloc (.cells #[i64 sl, i64 gn] 81)).alloc (.cells #[i64 tt, i64 rights] 90)).alloc (.cells #[i64 0, i64 0, i64 0, i64 0] 83) = V) := hV.symm
  obtain ⟨hbV, hq, hrr, hg⟩ := three_sh w sl gn tt rights
  rw [← hV] at hbV hq hrr hg
  have HBV := hid hbV
  have HH := hid h
  have hlo := h.lo'
  have HG := hid hg
  have HDV := hid (h.below hbV)
  obtain ⟨ao0, cap0, pc0, hbk, _⟩ := HDV.out.row
  have HS : Hid (SqH d y.kc (w.heap.size) (w.heap.size + 1) sl gn tt rights V.drew) := ⟨bkc hbk 0, hq, hrr⟩
  have HA0 := hid (Cp.rfind_ok HDV.out.drew.cp (by omega) env sl gn)
  have HOp0 : Hid (∀ W, Below w.heap.size w W → Calls Try.prog 21 #[pq d, i64 tt] W fun e w' => e = .returned (.bool (opB s tt)) ∧ Below W.heap.size W w') := fun W hW => ropn_ok (h.below hW) tt
  have HPd : Hid (∀ W, Below w.heap.size w W → Calls Try.prog 42 #[pq d, i64 env] W fun e w' => e = .returned (i64 (pdN C P env : Nat)) ∧ Below W.heap.size W w') := fun W hW => rpaid_ok (h.below hW) (by omega) hpl env
  have hpdL : (pdN C P env : Int) ≤ 1000 := by have := Cp.cnt_le P.length (pdB C P env); unfold pdN; omega
  rw [hop] at HOp0
  have hdk : decide ((k : Int) < 0) = false := decide_eq_false (by omega)
  have hpd : (pdN C P env : Int) < 42 := by omega
  have HDr := hid hdr
  have HNE := hid hne
  clear hop hfu hdr hne
  generalize pdN C P env = pd at *
  rw [hf] at HA0
  have HA := HA0
  clear HA0 h hV hbV hq hrr hg hbk hf
  go_enter Try.func38, Try.ntmps38
  go_upto_region 1 with fail
  rw [HV.out]
  refine wp_region_noPanic ?_
  refine wrl (SqH d y.kc (w.heap.size) (w.heap.size + 1) sl gn tt rights) 7 (by kernel_rfl) ?_
  refine wkp 0 10 (.pointer (some ⟨d, 0, none⟩)) [1, 2, 3, 6] rfl HS.out (fun W hW => by have q0 := bkc hW.q 0; have q1 := bkc hW.q 1; have r0 := bkc hW.r 0; have r1 := bkc hW.r 1; have d0 := hW.d0; go_simp) ?_
  refine wkp 1 11 (.pointer (some ⟨d, 0, none⟩)) [2, 3, 6] rfl HS.out (fun W hW => by have q0 := bkc hW.q 0; have q1 := bkc hW.q 1; have r0 := bkc hW.r 0; have r1 := bkc hW.r 1; have d0 := hW.d0; go_simp) ?_
  refine wkp 2 12 (.pointer (some ⟨d, 0, none⟩)) [3, 6] rfl HS.out (fun W hW => by have q0 := bkc hW.q 0; have q1 := bkc hW.q 1; have r0 := bkc hW.r 0; have r1 := bkc hW.r 1; have d0 := hW.d0; go_simp) ?_
  refine wkp 3 13 (.pointer (some ⟨y.kc, 0, none⟩)) [6] rfl HS.out (fun W hW => by have q0 := bkc hW.q 0; have q1 := bkc hW.q 1; have r0 := bkc hW.r 0; have r1 := bkc hW.r 1; have d0 := hW.d0; go_simp) ?_
  refine wkp 4 14 (i64 env) [6] rfl HS.out (fun W hW => by have q0 := bkc hW.q 0; have q1 := bkc hW.q 1; have r0 := bkc hW.r 0; have r1 := bkc hW.r 1; have d0 := hW.d0; go_simp) ?_
  refine wkp 5 15 (.agg #[i64 sl, i64 gn]) [6] rfl HS.out (fun W hW => by have q0 := bkc hW.q 0; have q1 := bkc hW.q 1; have r0 := bkc hW.r 0; have r1 := bkc hW.r 1; have d0 := hW.d0; go_simp) ?_
  simp only [Act.put, sA, sZ, sS]
  refine wo 6 rfl (fun K hK => ?_)
  go_simp
  refine HA.out.mono ?_
  rintro e w1 ⟨rfl, hb1⟩
  have HS1 : Hid (SqH d y.kc (w.heap.size) (w.heap.size + 1) sl gn tt rights w1) := HS.out.below hb1
  have HB1 : Hid (Below V.heap.size V w1) := below_drew hb1
  clear hb1 HA HS
  go_simp
  refine hK.out _ _ (fun _ => HS1.out) ?_
  clear hK K
  refine wo 7 rfl (fun K hK => ?_)
  go_simp
  refine hK.out _ _ (fun h => absurd rfl h) ?_
  clear hK K
  refine wdd ?_
  refine NoPanic.normal ?_
  have HG1 := hid (bkb HG.out HB1.out)
  have HBw1 : Hid (Below w.heap.size w w1) := HBV.out.trans (HB1.out.mono HBV.out.size)
  have r0 : w1.cell? ⟨w.heap.size + 1, 0, none⟩ = some (i64 tt) := bkc HS1.out.r 0
  go_wp2_with fail
  refine (HOp0.out w1 HBw1.out).mono ?_
  rintro e w2 ⟨rfl, hb2⟩
  have HG2 := hid (bkb HG1.out hb2)
  have HS2 : Hid (SqH d y.kc (w.heap.size) (w.heap.size + 1) sl gn tt rights w2) := HS1.out.below hb2
  have HBw2 : Hid (Below w.heap.size w w2) := HBw1.out.trans (hb2.mono HBw1.out.size)
  clear hb2 r0 HG1 HS1 HBw1 HB1
  go_wp2_with fail
  refine (HPd.out w2 HBw2.out).mono ?_
  rintro e w3 ⟨rfl, hb3⟩
  have HG3 := hid (bkb HG2.out hb3)
  have HS3 : Hid (SqH d y.kc (w.heap.size) (w.heap.size + 1) sl gn tt rights w3.drew) := ⟨(HS2.out.below hb3).d0, (HS2.out.below hb3).q, (HS2.out.below hb3).r⟩
  have HBw3 : Hid (Below w.heap.size w w3) := HBw2.out.trans (hb3.mono HBw2.out.size)
  clear hb3 HG2 HS2 HBw2
  go_upto_region 7 with fail
  refine wp_region_noPanic ?_
  refine wrl (SqH d y.kc (w.heap.size) (w.heap.size + 1) sl gn tt rights) 9 (by kernel_rfl) ?_
  refine wk 0 30 (.pointer (some ⟨d, 0, none⟩)) rfl HS3.out (fun W hW => by have q0 := bkc hW.q 0; have q1 := bkc hW.q 1; have r0 := bkc hW.r 0; have r1 := bkc hW.r 1; have d0 := hW.d0; go_simp) ?_
  refine wk 1 31 (.pointer (some ⟨d, 0, none⟩)) rfl HS3.out (fun W hW => by have q0 := bkc hW.q 0; have q1 := bkc hW.q 1; have r0 := bkc hW.r 0; have r1 := bkc hW.r 1; have d0 := hW.d0; go_simp) ?_
  refine wk 2 32 (.pointer (some ⟨d, 0, none⟩)) rfl HS3.out (fun W hW => by have q0 := bkc hW.q 0; have q1 := bkc hW.q 1; have r0 := bkc hW.r 0; have r1 := bkc hW.r 1; have d0 := hW.d0; go_simp) ?_
  refine wk 3 33 (.pointer (some ⟨y.kc, 0, none⟩)) rfl HS3.out (fun W hW => by have q0 := bkc hW.q 0; have q1 := bkc hW.q 1; have r0 := bkc hW.r 0; have r1 := bkc hW.r 1; have d0 := hW.d0; go_simp) ?_
  refine wk 4 34 (i64 env) rfl HS3.out (fun W hW => by have q0 := bkc hW.q 0; have q1 := bkc hW.q 1; have r0 := bkc hW.r 0; have r1 := bkc hW.r 1; have d0 := hW.d0; go_simp) ?_
  refine wk 5 35 (.agg #[i64 sl, i64 gn]) rfl HS3.out (fun W hW => by have q0 := bkc hW.q 0; have q1 := bkc hW.q 1; have r0 := bkc hW.r 0; have r1 := bkc hW.r 1; have d0 := hW.d0; go_simp) ?_
  refine wk 6 36 (.agg #[i64 tt, i64 rights]) rfl HS3.out (fun W hW => by have q0 := bkc hW.q 0; have q1 := bkc hW.q 1; have r0 := bkc hW.r 0; have r1 := bkc hW.r 1; have d0 := hW.d0; go_simp) ?_
  simp only [Act.put, sA, sZ, sS]
  refine wpL_two 7 8 rfl rfl (by kernel_rfl) (by rfl) (by rfl) (fun K hK => ?_) (fun K hK => ?_)
  · go_simp
    refine (HDr.out w3.drew (HH.out.below HBw3.out).drew).mono ?_
    rintro e w4 ⟨rfl, hd4, hf4⟩
    have HS4 : Hid (SqH d y.kc (w.heap.size) (w.heap.size + 1) sl gn tt rights w4) := HS3.out.fr hf4 (HH.out.below HBw3.out).drew.has
    have HG4 := hid (hf4.kept _ _ HG3.out rfl)
    have HD4 := hid hd4
    have HF4 : Hid (Df base y.pb w w4) := (Df.of_below HBw3.out.drew hlo).trans (Df.of_caps hf4) (PbOk.refl _ _)
    have HE4 : Hid (Fr base [99, 96] w3 w4) := Qt.fr_drew hf4
    clear hd4 hf4
    go_simp
    refine hK.out _ _ (fun _ => HS4.out) ?_
    clear hK K
    refine wo 8 rfl (fun K hK => ?_)
    go_simp
    refine hK.out _ _ (fun _ => HS4.out.below (bl1 w4 _)) ?_
    clear hK K
    refine wo 9 rfl (fun K hK => ?_)
    go_simp
    refine hK.out _ _ (fun h => absurd rfl h) ?_
    clear hK K
    refine wdd ?_
    refine NoPanic.normal ?_
    have HGu : Hid ((w4.alloc (.cells #[i64 dv0, i64 dv1, i64 dv2] 130)).heap[w.heap.size + 2]? = some (gtO 0 0 0 0)) := bka HG4.out _
    have HYu : Hid ((w4.alloc (.cells #[i64 dv0, i64 dv1, i64 dv2] 130)).heap[w4.heap.size]? = some (.cells #[i64 dv0, i64 dv1, i64 dv2] 130)) := hlx w4 _
    have HDu : Hid (Dd (w4.alloc (.cells #[i64 dv0, i64 dv1, i64 dv2] 130)) base d y t s C1 Rs P) := HD4.out.below (bl1 w4 _)
    have HFu : Hid (Df base y.pb w (w4.alloc (.cells #[i64 dv0, i64 dv1, i64 dv2] 130))) := HF4.out.trans (Df.of_below (bl1 w4 _) HD4.out.lo') (PbOk.refl _ _)
    have HEu : Hid (Fr base [99, 96] w3 (w4.alloc (.cells #[i64 dv0, i64 dv1, i64 dv2] 130))) := HE4.out.alloc HD4.out.lo' _
    have hYw : w.heap.size + 2 < w4.heap.size := blk_lt HG4.out
    clear HS4 HG4 HD4 HF4 HE4 HG3 HDr HS3
    generalize w4.alloc (.cells #[i64 dv0, i64 dv1, i64 dv2] 130) = U at *
    generalize w4.heap.size = Y at *
    have y2 : U.cell? ⟨Y, 2, none⟩ = some (i64 dv2) := bkc HYu.out 2
    have y0 : U.cell? ⟨Y, 0, none⟩ = some (i64 dv0) := bkc HYu.out 0
    have y1 : U.cell? ⟨Y, 1, none⟩ = some (i64 dv1) := bkc HYu.out 1
    have hne : (dv2 == 0) = false := by simpa using HNE.out
    have g0 : U.cell? ⟨w.heap.size + 2, 0, none⟩ = some (i64 0) := bkc HGu.out 0
    have g1 : U.cell? ⟨w.heap.size + 2, 1, none⟩ = some (i64 0) := bkc HGu.out 1
    have g2 : U.cell? ⟨w.heap.size + 2, 2, none⟩ = some (i64 0) := bkc HGu.out 2
    have g3 : U.cell? ⟨w.heap.size + 2, 3, none⟩ = some (i64 0) := bkc HGu.out 3
    have gf : ∀ j, U.frozen? ⟨w.heap.size + 2, j, none⟩ = false := bkf HGu.out
    go_wp2_with fail
    exact bodyPost_ret (Cp.results_one Try.results38 rfl (load83 (set83 HGu.out 0 dv0 dv1 dv2))) rfl ⟨rfl, HDu.out.set83 HGu.out _ _ _ _, HFu.out.set83 hlo (by omega) _ _ _ _⟩
  · go_simp
    refine hK.out _ _ (fun _ => HS3.out.below (bl1 w3.drew _)) ?_
    clear hK K
    have HSA : Hid (SqH d y.kc (w.heap.size) (w.heap.size + 1) sl gn tt rights (w3.alloc (.cells #[i64 0, i64 0, i64 0] 130)).drew) := ⟨(HS3.out.below (bl1 w3.drew _)).d0, (HS3.out.below (bl1 w3.drew _)).q, (HS3.out.below (bl1 w3.drew _)).r⟩
    have HYA : Hid ((w3.alloc (.cells #[i64 0, i64 0, i64 0] 130)).drew.heap[w3.heap.size]? = some (.cells #[i64 0, i64 0, i64 0] 130)) := hlx w3 _
    have HGA : Hid ((w3.alloc (.cells #[i64 0, i64 0, i64 0] 130)).drew.heap[w.heap.size + 2]? = some (gtO 0 0 0 0)) := bka HG3.out _
    have HBA : Hid (Below w.heap.size w (w3.alloc (.cells #[i64 0, i64 0, i64 0] 130)).drew) := (HBw3.out.alloc HBw3.out.size _).drew
    have HDA : Hid (Dd (w3.alloc (.cells #[i64 0, i64 0, i64 0] 130)).drew base d y t s C Rs P) := (HH.out.below (HBw3.out.alloc HBw3.out.size _)).drew
    have HEA : Hid (Fr base [99, 96] w3 (w3.alloc (.cells #[i64 0, i64 0, i64 0] 130)).drew) := (Fr.of_below _ (bl1 w3 _).drew (Nat.le_trans hlo HBw3.out.size))
    have hYw : w.heap.size + 2 < w3.heap.size := blk_lt HG3.out
    have hY3 : w3.heap.size ≤ w3.heap.size := Nat.le_refl _
    generalize (w3.alloc (.cells #[i64 0, i64 0, i64 0] 130)).drew = V4 at *
    obtain ⟨Y, hY⟩ : ∃ Y, w3.heap.size = Y := ⟨_, rfl⟩
    rw [hY] at HYA hYw ⊢
    have hY4 : w3.heap.size ≤ Y := by omega
    clear hY hY3
    refine wo 7 rfl (fun K hK => ?_)
    go_simp
    refine (HDr.out V4 HDA.out).mono ?_
    rintro e w4 ⟨rfl, hd4, hf4⟩
    have HS4 : Hid (SqH d y.kc (w.heap.size) (w.heap.size + 1) sl gn tt rights w4) := HSA.out.fr hf4 HDA.out.has
    have HG4 := hid (hf4.kept _ _ HGA.out rfl)
    have HY4 := hid (hf4.kept _ _ HYA.out rfl)
    have HD4 := hid hd4
    have HF4 : Hid (Df base y.pb w w4) := (Df.of_below HBA.out hlo).trans (Df.of_caps hf4) (PbOk.refl _ _)
    have HE4 : Hid (Fr base [99, 96] w3 w4) := HEA.out.trans hf4
    clear hd4 hf4 HSA HGA HYA HBA HDA HEA
    go_simp
    refine hK.out _ _ (fun _ => HS4.out) ?_
    clear hK K
    have z0 : w4.cell? ⟨Y, 0, none⟩ = some (i64 0) := bkc HY4.out 0
    have z1 : w4.cell? ⟨Y, 1, none⟩ = some (i64 0) := bkc HY4.out 1
    have z2 : w4.cell? ⟨Y, 2, none⟩ = some (i64 0) := bkc HY4.out 2
    have zf : ∀ j, w4.frozen? ⟨Y, j, none⟩ = false := bkf HY4.out
    refine wo 9 rfl (fun K hK => ?_)
    go_simp
    refine hK.out _ _ (fun h => absurd rfl h) ?_
    clear hK K
    refine wdd ?_
    refine NoPanic.normal ?_
    have HYu : Hid ((((w4.setCell ⟨Y, 0, none⟩ (i64 dv0)).setCell ⟨Y, 1, none⟩ (i64 dv1)).setCell ⟨Y, 2, none⟩ (i64 dv2)).heap[Y]? = some (.cells #[i64 dv0, i64 dv1, i64 dv2] 130)) := Cp.set3 HY4.out _ _ _
    have HGu : Hid ((((w4.setCell ⟨Y, 0, none⟩ (i64 dv0)).setCell ⟨Y, 1, none⟩ (i64 dv1)).setCell ⟨Y, 2, none⟩ (i64 dv2)).heap[w.heap.size + 2]? = some (gtO 0 0 0 0)) := by
      rw [Below.heap_setCell _ _ _ _ (by show w.heap.size + 2 ≠ Y; omega), Below.heap_setCell _ _ _ _ (by show w.heap.size + 2 ≠ Y; omega), Below.heap_setCell _ _ _ _ (by show w.heap.size + 2 ≠ Y; omega)]
      exact HG4.out
    have HDu : Hid (Dd (((w4.setCell ⟨Y, 0, none⟩ (i64 dv0)).setCell ⟨Y, 1, none⟩ (i64 dv1)).setCell ⟨Y, 2, none⟩ (i64 dv2)) base d y t s C1 Rs P) := HD4.out.set130 HY4.out _ _ _
    have HFu : Hid (Df base y.pb w (((w4.setCell ⟨Y, 0, none⟩ (i64 dv0)).setCell ⟨Y, 1, none⟩ (i64 dv1)).setCell ⟨Y, 2, none⟩ (i64 dv2))) := HF4.out.set130 hlo (by omega) _ _ _
    have HEu : Hid (Fr base [99, 96] w3 (((w4.setCell ⟨Y, 0, none⟩ (i64 dv0)).setCell ⟨Y, 1, none⟩ (i64 dv1)).setCell ⟨Y, 2, none⟩ (i64 dv2))) := HE4.out.set3n hY4 (Nat.le_trans hlo HBw3.out.size) _ _ _
    clear HS4 HG4 HY4 HD4 HF4 HE4 HG3 HDr HS3 z0 z1 z2 zf
    generalize (((w4.setCell ⟨Y, 0, none⟩ (i64 dv0)).setCell ⟨Y, 1, none⟩ (i64 dv1)).setCell ⟨Y, 2, none⟩ (i64 dv2)) = U at *
    have y2 : U.cell? ⟨Y, 2, none⟩ = some (i64 dv2) := bkc HYu.out 2
    have y0 : U.cell? ⟨Y, 0, none⟩ = some (i64 dv0) := bkc HYu.out 0
    have y1 : U.cell? ⟨Y, 1, none⟩ = some (i64 dv1) := bkc HYu.out 1
    have hne : (dv2 == 0) = false := by simpa using HNE.out
    have g0 : U.cell? ⟨w.heap.size + 2, 0, none⟩ = some (i64 0) := bkc HGu.out 0
    have g1 : U.cell? ⟨w.heap.size + 2, 1, none⟩ = some (i64 0) := bkc HGu.out 1
    have g2 : U.cell? ⟨w.heap.size + 2, 2, none⟩ = some (i64 0) := bkc HGu.out 2
    have g3 : U.cell? ⟨w.heap.size + 2, 3, none⟩ = some (i64 0) := bkc HGu.out 3
    have gf : ∀ j, U.frozen? ⟨w.heap.size + 2, j, none⟩ = false := bkf HGu.out
    go_wp2_with fail
    exact bodyPost_ret (Cp.results_one Try.results38 rfl (load83 (set83 HGu.out 0 dv0 dv1 dv2))) rfl ⟨rfl, HDu.out.set83 HGu.out _ _ _ _, HFu.out.set83 hlo (by omega) _ _ _ _⟩
set_option maxHeartbeats 8000000 in
theorem rshare_ok {w : World} {base d : Nat} {y : Dx} {t : Qt.T} {s : Qt.St} {C : List Cp.Rw} {Rs : List Rt} {P : List Int} (h : Dd w base d y t s C Rs P) (hcl : C.length ≤ 900) (hpl : P.length = C.length) (env sl gn tt rights : Int) (k : Nat) (hf : Cp.fdI C env sl gn = k) (hop : opB s tt = true) (hfu : pdN C P env < 42) (C1 : List Cp.Rw) (dv0 dv1 dv2 : Int) (hdr : ∀ W, Dd W base d y t s C Rs P → Calls Try.prog 71 #[pq y.kc, i64 env, .agg #[i64 sl, i64 gn], .agg #[i64 tt, i64 rights]] W fun e w' => e = .returned (.agg #[i64 dv0, i64 dv1, i64 dv2]) ∧ Dd w' base d y t s C1 Rs P ∧ Fr base [99, 96] W w') (hne : dv2 = 0) :
    Calls Try.prog 38 #[pq d, i64 env, .agg #[i64 sl, i64 gn], .agg #[i64 tt, i64 rights]] w fun e w' => e = .returned (.agg #[i64 0, i64 dv0, i64 dv1, i64 dv2]) ∧ ∃ pb', PbOk w y.pb pb' ∧ Dd w' base d ⟨y.kc, y.kb, pb'⟩ t s C1 Rs (P ++ [env]) ∧ Df base y.pb w w' := by
  obtain ⟨V, hV⟩ : ∃ V, V = ((w.alloc (.cells #[i64 sl, i64 gn] 81)).alloc (.cells #[i64 tt, i64 rights] 90)).alloc (gtO 0 0 0 0) := ⟨_, rfl⟩
  have HV : Hid (((w.alloc (.cells #[i64 sl, i64 gn] 81)).alloc (.cells #[i64 tt, i64 rights] 90)).alloc (.cells #[i64 0, i64 0, i64 0, i64 0] 83) = V) := hV.symm
  obtain ⟨hbV, hq, hrr, hg⟩ := three_sh w sl gn tt rights
  rw [← hV] at hbV hq hrr hg
  have HBV := hid hbV
  have HH := hid h
  have hlo := h.lo'
  have HG := hid hg
  have HDV := hid (h.below hbV)
  obtain ⟨ao0, cap0, pc0, hbk, _⟩ := HDV.out.row
  have HS : Hid (SqH d y.kc (w.heap.size) (w.heap.size + 1) sl gn tt rights V.drew) := ⟨bkc hbk 0, hq, hrr⟩
  have HA0 := hid (Cp.rfind_ok HDV.out.drew.cp (by omega) env sl gn)
  have HOp0 : Hid (∀ W, Below w.heap.size w W → Calls Try.prog 21 #[pq d, i64 tt] W fun e w' => e = .returned (.bool (opB s tt)) ∧ Below W.heap.size W w') := fun W hW => ropn_ok (h.below hW) tt
  have HPd : Hid (∀ W, Below w.heap.size w W → Calls Try.prog 42 #[pq d, i64 env] W fun e w' => e = .returned (i64 (pdN C P env : Nat)) ∧ Below W.heap.size W w') := fun W hW => rpaid_ok (h.below hW) (by omega) hpl env
  have hpdL : (pdN C P env : Int) ≤ 1000 := by have := Cp.cnt_le P.length (pdB C P env); unfold pdN; omega
  rw [hop] at HOp0
  have hdk : decide ((k : Int) < 0) = false := decide_eq_false (by omega)
  have hpd : (pdN C P env : Int) < 42 := by omega
  have HDr := hid hdr
  have HNE := hid hne
  clear hop hfu hdr hne
  generalize pdN C P env = pd at *
  rw [hf] at HA0
  have HA := HA0
  clear HA0 h hV hbV hq hrr hg hbk hf
  go_enter Try.func38, Try.ntmps38
  go_upto_region 1 with fail
  rw [HV.out]
  refine wp_region_noPanic ?_
  refine wrl (SqH d y.kc (w.heap.size) (w.heap.size + 1) sl gn tt rights) 7 (by kernel_rfl) ?_
  refine wkp 0 10 (.pointer (some ⟨d, 0, none⟩)) [1, 2, 3, 6] rfl HS.out (fun W hW => by have q0 := bkc hW.q 0; have q1 := bkc hW.q 1; have r0 := bkc hW.r 0; have r1 := bkc hW.r 1; have d0 := hW.d0; go_simp) ?_
  refine wkp 1 11 (.pointer (some ⟨d, 0, none⟩)) [2, 3, 6] rfl HS.out (fun W hW => by have q0 := bkc hW.q 0; have q1 := bkc hW.q 1; have r0 := bkc hW.r 0; have r1 := bkc hW.r 1; have d0 := hW.d0; go_simp) ?_
  refine wkp 2 12 (.pointer (some ⟨d, 0, none⟩)) [3, 6] rfl HS.out (fun W hW => by have q0 := bkc hW.q 0; have q1 := bkc hW.q 1; have r0 := bkc hW.r 0; have r1 := bkc hW.r 1; have d0 := hW.d0; go_simp) ?_
  refine wkp 3 13 (.pointer (some ⟨y.kc, 0, none⟩)) [6] rfl HS.out (fun W hW => by have q0 := bkc hW.q 0; have q1 := bkc hW.q 1; have r0 := bkc hW.r 0; have r1 := bkc hW.r 1; have d0 := hW.d0; go_simp) ?_
  refine wkp 4 14 (i64 env) [6] rfl HS.out (fun W hW => by have q0 := bkc hW.q 0; have q1 := bkc hW.q 1; have r0 := bkc hW.r 0; have r1 := bkc hW.r 1; have d0 := hW.d0; go_simp) ?_
  refine wkp 5 15 (.agg #[i64 sl, i64 gn]) [6] rfl HS.out (fun W hW => by have q0 := bkc hW.q 0; have q1 := bkc hW.q 1; have r0 := bkc hW.r 0; have r1 := bkc hW.r 1; have d0 := hW.d0; go_simp) ?_
  simp only [Act.put, sA, sZ, sS]
  refine wo 6 rfl (fun K hK => ?_)
  go_simp
  refine HA.out.mono ?_
  rintro e w1 ⟨rfl, hb1⟩
  have HS1 : Hid (SqH d y.kc (w.heap.size) (w.heap.size + 1) sl gn tt rights w1) := HS.out.below hb1
  have HB1 : Hid (Below V.heap.size V w1) := below_drew hb1
  clear hb1 HA HS
  go_simp
  refine hK.out _ _ (fun _ => HS1.out) ?_
  clear hK K
  refine wo 7 rfl (fun K hK => ?_)
  go_simp
  refine hK.out _ _ (fun h => absurd rfl h) ?_
  clear hK K
  refine wdd ?_
  refine NoPanic.normal ?_
  have HG1 := hid (bkb HG.out HB1.out)
  have HBw1 : Hid (Below w.heap.size w w1) := HBV.out.trans (HB1.out.mono HBV.out.size)
  have r0 : w1.cell? ⟨w.heap.size + 1, 0, none⟩ = some (i64 tt) := bkc HS1.out.r 0
  go_wp2_with fail
  refine (HOp0.out w1 HBw1.out).mono ?_
  rintro e w2 ⟨rfl, hb2⟩
  have HG2 := hid (bkb HG1.out hb2)
  have HS2 : Hid (SqH d y.kc (w.heap.size) (w.heap.size + 1) sl gn tt rights w2) := HS1.out.below hb2
  have HBw2 : Hid (Below w.heap.size w w2) := HBw1.out.trans (hb2.mono HBw1.out.size)
  clear hb2 r0 HG1 HS1 HBw1 HB1
  go_wp2_with fail
  refine (HPd.out w2 HBw2.out).mono ?_
  rintro e w3 ⟨rfl, hb3⟩
  have HG3 := hid (bkb HG2.out hb3)
  have HS3 : Hid (SqH d y.kc (w.heap.size) (w.heap.size + 1) sl gn tt rights w3.drew) := ⟨(HS2.out.below hb3).d0, (HS2.out.below hb3).q, (HS2.out.below hb3).r⟩
  have HBw3 : Hid (Below w.heap.size w w3) := HBw2.out.trans (hb3.mono HBw2.out.size)
  clear hb3 HG2 HS2 HBw2
  go_upto_region 7 with fail
  refine wp_region_noPanic ?_
  refine wrl (SqH d y.kc (w.heap.size) (w.heap.size + 1) sl gn tt rights) 9 (by kernel_rfl) ?_
  refine wk 0 30 (.pointer (some ⟨d, 0, none⟩)) rfl HS3.out (fun W hW => by have q0 := bkc hW.q 0; have q1 := bkc hW.q 1; have r0 := bkc hW.r 0; have r1 := bkc hW.r 1; have d0 := hW.d0; go_simp) ?_
  refine wk 1 31 (.pointer (some ⟨d, 0, none⟩)) rfl HS3.out (fun W hW => by have q0 := bkc hW.q 0; have q1 := bkc hW.q 1; have r0 := bkc hW.r 0; have r1 := bkc hW.r 1; have d0 := hW.d0; go_simp) ?_
  refine wk 2 32 (.pointer (some ⟨d, 0, none⟩)) rfl HS3.out (fun W hW => by have q0 := bkc hW.q 0; have q1 := bkc hW.q 1; have r0 := bkc hW.r 0; have r1 := bkc hW.r 1; have d0 := hW.d0; go_simp) ?_
  refine wk 3 33 (.pointer (some ⟨y.kc, 0, none⟩)) rfl HS3.out (fun W hW => by have q0 := bkc hW.q 0; have q1 := bkc hW.q 1; have r0 := bkc hW.r 0; have r1 := bkc hW.r 1; have d0 := hW.d0; go_simp) ?_
  refine wk 4 34 (i64 env) rfl HS3.out (fun W hW => by have q0 := bkc hW.q 0; have q1 := bkc hW.q 1; have r0 := bkc hW.r 0; have r1 := bkc hW.r 1; have d0 := hW.d0; go_simp) ?_
  refine wk 5 35 (.agg #[i64 sl, i64 gn]) rfl HS3.out (fun W hW => by have q0 := bkc hW.q 0; have q1 := bkc hW.q 1; have r0 := bkc hW.r 0; have r1 := bkc hW.r 1; have d0 := hW.d0; go_simp) ?_
  refine wk 6 36 (.agg #[i64 tt, i64 rights]) rfl HS3.out (fun W hW => by have q0 := bkc hW.q 0; have q1 := bkc hW.q 1; have r0 := bkc hW.r 0; have r1 := bkc hW.r 1; have d0 := hW.d0; go_simp) ?_
  simp only [Act.put, sA, sZ, sS]
  refine wpL_two 7 8 rfl rfl (by kernel_rfl) (by rfl) (by rfl) (fun K hK => ?_) (fun K hK => ?_)
  · go_simp
    refine (HDr.out w3.drew (HH.out.below HBw3.out).drew).mono ?_
    rintro e w4 ⟨rfl, hd4, hf4⟩
    have HS4 : Hid (SqH d y.kc (w.heap.size) (w.heap.size + 1) sl gn tt rights w4) := HS3.out.fr hf4 (HH.out.below HBw3.out).drew.has
    have HG4 := hid (hf4.kept _ _ HG3.out rfl)
    have HD4 := hid hd4
    have HF4 : Hid (Df base y.pb w w4) := (Df.of_below HBw3.out.drew hlo).trans (Df.of_caps hf4) (PbOk.refl _ _)
    have HE4 : Hid (Fr base [99, 96] w3 w4) := Qt.fr_drew hf4
    clear hd4 hf4
    go_simp
    refine hK.out _ _ (fun _ => HS4.out) ?_
    clear hK K
    refine wo 8 rfl (fun K hK => ?_)
    go_simp
    refine hK.out _ _ (fun _ => HS4.out.below (bl1 w4 _)) ?_
    clear hK K
    refine wo 9 rfl (fun K hK => ?_)
    go_simp
    refine hK.out _ _ (fun h => absurd rfl h) ?_
    clear hK K
    refine wdd ?_
    refine NoPanic.normal ?_
    have HGu : Hid ((w4.alloc (.cells #[i64 dv0, i64 dv1, i64 dv2] 130)).heap[w.heap.size + 2]? = some (gtO 0 0 0 0)) := bka HG4.out _
    have HYu : Hid ((w4.alloc (.cells #[i64 dv0, i64 dv1, i64 dv2] 130)).heap[w4.heap.size]? = some (.cells #[i64 dv0, i64 dv1, i64 dv2] 130)) := hlx w4 _
    have HDu : Hid (Dd (w4.alloc (.cells #[i64 dv0, i64 dv1, i64 dv2] 130)) base d y t s C1 Rs P) := HD4.out.below (bl1 w4 _)
    have HFu : Hid (Df base y.pb w (w4.alloc (.cells #[i64 dv0, i64 dv1, i64 dv2] 130))) := HF4.out.trans (Df.of_below (bl1 w4 _) HD4.out.lo') (PbOk.refl _ _)
    have HEu : Hid (Fr base [99, 96] w3 (w4.alloc (.cells #[i64 dv0, i64 dv1, i64 dv2] 130))) := HE4.out.alloc HD4.out.lo' _
    have hYw : w.heap.size + 2 < w4.heap.size := blk_lt HG4.out
    clear HS4 HG4 HD4 HF4 HE4 HG3 HDr HS3
    generalize w4.alloc (.cells #[i64 dv0, i64 dv1, i64 dv2] 130) = U at *
    generalize w4.heap.size = Y at *
    have y2 : U.cell? ⟨Y, 2, none⟩ = some (i64 dv2) := bkc HYu.out 2
    have hne : (dv2 == 0) = true := by simpa using HNE.out
    obtain ⟨ao, cap, pc, hbk, hown, hownP, hcap, hpc, _⟩ := HDu.out.row
    have HKu := hid hbk
    have HOR := hid hown
    have hloU : base ≤ U.heap.size := HDu.out.lo'
    have hUw := HFu.out.size
    obtain ⟨pb8, cap8, w8, hrun8, hown8, hfr8, hfar8, hpb8⟩ := app_at (te := 3) under38 info3 rfl (by omega) (by omega) hownP [i64 env] rfl (by intro u hu; simp at hu; subst hu; rfl) (by omega) hloU
    rw [own_sla_b] at hpb8 hfar8
    have HRUN8 := hid hrun8
    have HO8 := hid hown8
    have HFR8 := hid hfr8
    have HFAR8 := hid hfar8
    have HPB8 : Hid (PbOk w y.pb pb8) := by
      rcases hpb8 with h | h
      · exact Or.inl h
      · exact Or.inr ⟨_, h, by omega⟩
    have HK8 := hid (hfr8.kept _ _ HKu.out rfl)
    have HG8 := hid (hfr8.kept _ _ HGu.out rfl)
    have HY8 := hid (hfr8.kept _ _ HYu.out rfl)
    have d3 : U.cell? ⟨d, 3, none⟩ = some (.slice (sla y.pb) P.length pc) := bkc HKu.out 3
    have k83 : w8.cell? ⟨d, 3, none⟩ = some (.slice (sla y.pb) P.length pc) := bkc HK8.out 3
    have k8f : w8.frozen? ⟨d, 3, none⟩ = false := bkf HK8.out 3
    obtain ⟨vp, hvp⟩ : ∃ vp, vp = Value.slice (sla y.pb) P.length pc := ⟨_, rfl⟩
    obtain ⟨pa8, hpa8⟩ : ∃ pa8, pa8 = sla pb8 := ⟨_, rfl⟩
    obtain ⟨np1, hnp1⟩ : ∃ np1, np1 = P.length + 1 := ⟨_, rfl⟩
    have HVQ : Hid (Value.slice pa8 np1 cap8 = Value.slice (sla pb8) (P.length + 1) cap8) := by rw [hpa8, hnp1]; exact hid rfl
    rw [← hvp] at d3 k83
    rw [← hvp, ← hpa8, ← hnp1] at HRUN8
    clear hrun8 hown8 hfr8 hfar8 hpb8 hvp hpa8 hnp1 hbk hown hownP hcap hpc
    go_upto_region 10 with (at_builtin; refine wpList_app_run rfl (.tmp 45) (.tmp 47) 38 rfl _ _ rfl rfl 38 rfl _ _ HRUN8.out ?_)
    have HK9 : Hid ((w8.setCell ⟨d, 3, none⟩ (.slice pa8 np1 cap8)).heap[d]? = some (ddO y.kc y.kb (.slice ao Rs.length cap) (.slice pa8 np1 cap8))) := dd_set3 HK8.out _
    have HKp9 : Hid (∀ (i : Nat) (A : Array Value) (ty : TypeId), w8.heap[i]? = some (.cells A ty) → ty ≠ 79 → (w8.setCell ⟨d, 3, none⟩ (.slice pa8 np1 cap8)).heap[i]? = some (.cells A ty)) := fun i A ty hA hne => by
      rw [Below.heap_setCell _ _ _ _ (fun e => by have e' : i = d := e; rw [e', HK8.out] at hA; simp at hA; exact hne hA.2.symm)]
      exact hA
    have HG9 := hid (HKp9.out _ _ _ HG8.out (by decide))
    have HY9 := hid (HKp9.out _ _ _ HY8.out (by decide))
    have HD9 : Hid (Dd (w8.setCell ⟨d, 3, none⟩ (.slice pa8 np1 cap8)) base d ⟨y.kc, y.kb, pb8⟩ t s C1 Rs (P ++ [env])) := by
      have e1 : (P ++ [env]).length = P.length + 1 := by simp
      refine HDu.out.lists (vR := .slice ao Rs.length cap) (cap := cap8) (by rw [e1, ← HVQ.out]; exact HK9.out) ?_ ?_ (fun k A ty hA hty => ?_)
      · exact Qt.own_keep HOR.out (fun i A hA => HKp9.out i A _ (HFR8.out.kept i _ hA rfl) (by decide))
      · rw [e1, icells_app]
        exact Qt.own_keep HO8.out (fun i A hA => HKp9.out i A _ hA (by decide))
      · refine HKp9.out k A ty (HFR8.out.kept k _ hA ?_) ?_
        · rcases hty with rfl | rfl | rfl | rfl <;> rfl
        · rcases hty with rfl | rfl | rfl | rfl <;> decide
    have HF9 : Hid (Df base y.pb w (w8.setCell ⟨d, 3, none⟩ (.slice pa8 np1 cap8))) := by
      refine ⟨(HFu.out.below.trans HFR8.out.below).setCell HH.out.lo _, fun k o hk ho => ?_⟩
      have h7 := HFu.out.kept k o hk ho
      have hkd : k ≠ d := fun e => by
        obtain ⟨ao', cap', pc', hb', _⟩ := HH.out.row
        rw [e, hb'] at hk
        cases hk
        simp [ownD] at ho
      rw [Below.heap_setCell _ _ _ _ hkd]
      by_cases hp : some k = y.pb
      · cases o with
        | cells A ty fr => simp [ownD, hp] at ho
        | _ =>
          exact HFR8.out.kept k _ h7 rfl
      · rw [HFAR8.out k (blk_lt h7) hp]
        exact h7
    have y0 : (w8.setCell ⟨d, 3, none⟩ (.slice pa8 np1 cap8)).cell? ⟨Y, 0, none⟩ = some (i64 dv0) := bkc HY9.out 0
    have y1 : (w8.setCell ⟨d, 3, none⟩ (.slice pa8 np1 cap8)).cell? ⟨Y, 1, none⟩ = some (i64 dv1) := bkc HY9.out 1
    have y2 : (w8.setCell ⟨d, 3, none⟩ (.slice pa8 np1 cap8)).cell? ⟨Y, 2, none⟩ = some (i64 dv2) := bkc HY9.out 2
    have g0 : (w8.setCell ⟨d, 3, none⟩ (.slice pa8 np1 cap8)).cell? ⟨w.heap.size + 2, 0, none⟩ = some (i64 0) := bkc HG9.out 0
    have g1 : (w8.setCell ⟨d, 3, none⟩ (.slice pa8 np1 cap8)).cell? ⟨w.heap.size + 2, 1, none⟩ = some (i64 0) := bkc HG9.out 1
    have g2 : (w8.setCell ⟨d, 3, none⟩ (.slice pa8 np1 cap8)).cell? ⟨w.heap.size + 2, 2, none⟩ = some (i64 0) := bkc HG9.out 2
    have g3 : (w8.setCell ⟨d, 3, none⟩ (.slice pa8 np1 cap8)).cell? ⟨w.heap.size + 2, 3, none⟩ = some (i64 0) := bkc HG9.out 3
    have gf : ∀ j, (w8.setCell ⟨d, 3, none⟩ (.slice pa8 np1 cap8)).frozen? ⟨w.heap.size + 2, j, none⟩ = false := bkf HG9.out
    clear HKp9 HFAR8 HFR8 HK8 HG8 HY8 HO8 HOR HKu HY9 HK9 HRUN8 HVQ d3 k83 k8f HGu HYu HDu HFu HEu
    generalize w8.setCell ⟨d, 3, none⟩ (.slice pa8 np1 cap8) = U9 at *
    go_wp2_with fail
    exact bodyPost_ret (Cp.results_one Try.results38 rfl (load83 (set83 HG9.out 0 dv0 dv1 dv2))) rfl ⟨rfl, pb8, HPB8.out, HD9.out.set83 HG9.out _ _ _ _, HF9.out.set83 hlo (by omega) _ _ _ _⟩
  · go_simp
    refine hK.out _ _ (fun _ => HS3.out.below (bl1 w3.drew _)) ?_
    clear hK K
    have HSA : Hid (SqH d y.kc (w.heap.size) (w.heap.size + 1) sl gn tt rights (w3.alloc (.cells #[i64 0, i64 0, i64 0] 130)).drew) := ⟨(HS3.out.below (bl1 w3.drew _)).d0, (HS3.out.below (bl1 w3.drew _)).q, (HS3.out.below (bl1 w3.drew _)).r⟩
    have HYA : Hid ((w3.alloc (.cells #[i64 0, i64 0, i64 0] 130)).drew.heap[w3.heap.size]? = some (.cells #[i64 0, i64 0, i64 0] 130)) := hlx w3 _
    have HGA : Hid ((w3.alloc (.cells #[i64 0, i64 0, i64 0] 130)).drew.heap[w.heap.size + 2]? = some (gtO 0 0 0 0)) := bka HG3.out _
    have HBA : Hid (Below w.heap.size w (w3.alloc (.cells #[i64 0, i64 0, i64 0] 130)).drew) := (HBw3.out.alloc HBw3.out.size _).drew
    have HDA : Hid (Dd (w3.alloc (.cells #[i64 0, i64 0, i64 0] 130)).drew base d y t s C Rs P) := (HH.out.below (HBw3.out.alloc HBw3.out.size _)).drew
    have HEA : Hid (Fr base [99, 96] w3 (w3.alloc (.cells #[i64 0, i64 0, i64 0] 130)).drew) := (Fr.of_below _ (bl1 w3 _).drew (Nat.le_trans hlo HBw3.out.size))
    have hYw : w.heap.size + 2 < w3.heap.size := blk_lt HG3.out
    have hY3 : w3.heap.size ≤ w3.heap.size := Nat.le_refl _
    generalize (w3.alloc (.cells #[i64 0, i64 0, i64 0] 130)).drew = V4 at *
    obtain ⟨Y, hY⟩ : ∃ Y, w3.heap.size = Y := ⟨_, rfl⟩
    rw [hY] at HYA hYw ⊢
    have hY4 : w3.heap.size ≤ Y := by omega
    clear hY hY3
    refine wo 7 rfl (fun K hK => ?_)
    go_simp
    refine (HDr.out V4 HDA.out).mono ?_
    rintro e w4 ⟨rfl, hd4, hf4⟩
    have HS4 : Hid (SqH d y.kc (w.heap.size) (w.heap.size + 1) sl gn tt rights w4) := HSA.out.fr hf4 HDA.out.has
    have HG4 := hid (hf4.kept _ _ HGA.out rfl)
    have HY4 := hid (hf4.kept _ _ HYA.out rfl)
    have HD4 := hid hd4
    have HF4 : Hid (Df base y.pb w w4) := (Df.of_below HBA.out hlo).trans (Df.of_caps hf4) (PbOk.refl _ _)
    have HE4 : Hid (Fr base [99, 96] w3 w4) := HEA.out.trans hf4
    clear hd4 hf4 HSA HGA HYA HBA HDA HEA
    go_simp
    refine hK.out _ _ (fun _ => HS4.out) ?_
    clear hK K
    have z0 : w4.cell? ⟨Y, 0, none⟩ = some (i64 0) := bkc HY4.out 0
    have z1 : w4.cell? ⟨Y, 1, none⟩ = some (i64 0) := bkc HY4.out 1
    have z2 : w4.cell? ⟨Y, 2, none⟩ = some (i64 0) := bkc HY4.out 2
    have zf : ∀ j, w4.frozen? ⟨Y, j, none⟩ = false := bkf HY4.out
    refine wo 9 rfl (fun K hK => ?_)
    go_simp
    refine hK.out _ _ (fun h => absurd rfl h) ?_
    clear hK K
    refine wdd ?_
    refine NoPanic.normal ?_
    have HYu : Hid ((((w4.setCell ⟨Y, 0, none⟩ (i64 dv0)).setCell ⟨Y, 1, none⟩ (i64 dv1)).setCell ⟨Y, 2, none⟩ (i64 dv2)).heap[Y]? = some (.cells #[i64 dv0, i64 dv1, i64 dv2] 130)) := Cp.set3 HY4.out _ _ _
    have HGu : Hid ((((w4.setCell ⟨Y, 0, none⟩ (i64 dv0)).setCell ⟨Y, 1, none⟩ (i64 dv1)).setCell ⟨Y, 2, none⟩ (i64 dv2)).heap[w.heap.size + 2]? = some (gtO 0 0 0 0)) := by
      rw [Below.heap_setCell _ _ _ _ (by show w.heap.size + 2 ≠ Y; omega), Below.heap_setCell _ _ _ _ (by show w.heap.size + 2 ≠ Y; omega), Below.heap_setCell _ _ _ _ (by show w.heap.size + 2 ≠ Y; omega)]
      exact HG4.out
    have HDu : Hid (Dd (((w4.setCell ⟨Y, 0, none⟩ (i64 dv0)).setCell ⟨Y, 1, none⟩ (i64 dv1)).setCell ⟨Y, 2, none⟩ (i64 dv2)) base d y t s C1 Rs P) := HD4.out.set130 HY4.out _ _ _
    have HFu : Hid (Df base y.pb w (((w4.setCell ⟨Y, 0, none⟩ (i64 dv0)).setCell ⟨Y, 1, none⟩ (i64 dv1)).setCell ⟨Y, 2, none⟩ (i64 dv2))) := HF4.out.set130 hlo (by omega) _ _ _
    have HEu : Hid (Fr base [99, 96] w3 (((w4.setCell ⟨Y, 0, none⟩ (i64 dv0)).setCell ⟨Y, 1, none⟩ (i64 dv1)).setCell ⟨Y, 2, none⟩ (i64 dv2))) := HE4.out.set3n hY4 (Nat.le_trans hlo HBw3.out.size) _ _ _
    clear HS4 HG4 HY4 HD4 HF4 HE4 HG3 HDr HS3 z0 z1 z2 zf
    generalize (((w4.setCell ⟨Y, 0, none⟩ (i64 dv0)).setCell ⟨Y, 1, none⟩ (i64 dv1)).setCell ⟨Y, 2, none⟩ (i64 dv2)) = U at *
    have y2 : U.cell? ⟨Y, 2, none⟩ = some (i64 dv2) := bkc HYu.out 2
    have hne : (dv2 == 0) = true := by simpa using HNE.out
    obtain ⟨ao, cap, pc, hbk, hown, hownP, hcap, hpc, _⟩ := HDu.out.row
    have HKu := hid hbk
    have HOR := hid hown
    have hloU : base ≤ U.heap.size := HDu.out.lo'
    have hUw := HFu.out.size
    obtain ⟨pb8, cap8, w8, hrun8, hown8, hfr8, hfar8, hpb8⟩ := app_at (te := 3) under38 info3 rfl (by omega) (by omega) hownP [i64 env] rfl (by intro u hu; simp at hu; subst hu; rfl) (by omega) hloU
    rw [own_sla_b] at hpb8 hfar8
    have HRUN8 := hid hrun8
    have HO8 := hid hown8
    have HFR8 := hid hfr8
    have HFAR8 := hid hfar8
    have HPB8 : Hid (PbOk w y.pb pb8) := by
      rcases hpb8 with h | h
      · exact Or.inl h
      · exact Or.inr ⟨_, h, by omega⟩
    have HK8 := hid (hfr8.kept _ _ HKu.out rfl)
    have HG8 := hid (hfr8.kept _ _ HGu.out rfl)
    have HY8 := hid (hfr8.kept _ _ HYu.out rfl)
    have d3 : U.cell? ⟨d, 3, none⟩ = some (.slice (sla y.pb) P.length pc) := bkc HKu.out 3
    have k83 : w8.cell? ⟨d, 3, none⟩ = some (.slice (sla y.pb) P.length pc) := bkc HK8.out 3
    have k8f : w8.frozen? ⟨d, 3, none⟩ = false := bkf HK8.out 3
    obtain ⟨vp, hvp⟩ : ∃ vp, vp = Value.slice (sla y.pb) P.length pc := ⟨_, rfl⟩
    obtain ⟨pa8, hpa8⟩ : ∃ pa8, pa8 = sla pb8 := ⟨_, rfl⟩
    obtain ⟨np1, hnp1⟩ : ∃ np1, np1 = P.length + 1 := ⟨_, rfl⟩
    have HVQ : Hid (Value.slice pa8 np1 cap8 = Value.slice (sla pb8) (P.length + 1) cap8) := by rw [hpa8, hnp1]; exact hid rfl
    rw [← hvp] at d3 k83
    rw [← hvp, ← hpa8, ← hnp1] at HRUN8
    clear hrun8 hown8 hfr8 hfar8 hpb8 hvp hpa8 hnp1 hbk hown hownP hcap hpc
    go_upto_region 10 with (at_builtin; refine wpList_app_run rfl (.tmp 45) (.tmp 47) 38 rfl _ _ rfl rfl 38 rfl _ _ HRUN8.out ?_)
    have HK9 : Hid ((w8.setCell ⟨d, 3, none⟩ (.slice pa8 np1 cap8)).heap[d]? = some (ddO y.kc y.kb (.slice ao Rs.length cap) (.slice pa8 np1 cap8))) := dd_set3 HK8.out _
    have HKp9 : Hid (∀ (i : Nat) (A : Array Value) (ty : TypeId), w8.heap[i]? = some (.cells A ty) → ty ≠ 79 → (w8.setCell ⟨d, 3, none⟩ (.slice pa8 np1 cap8)).heap[i]? = some (.cells A ty)) := fun i A ty hA hne => by
      rw [Below.heap_setCell _ _ _ _ (fun e => by have e' : i = d := e; rw [e', HK8.out] at hA; simp at hA; exact hne hA.2.symm)]
      exact hA
    have HG9 := hid (HKp9.out _ _ _ HG8.out (by decide))
    have HY9 := hid (HKp9.out _ _ _ HY8.out (by decide))
    have HD9 : Hid (Dd (w8.setCell ⟨d, 3, none⟩ (.slice pa8 np1 cap8)) base d ⟨y.kc, y.kb, pb8⟩ t s C1 Rs (P ++ [env])) := by
      have e1 : (P ++ [env]).length = P.length + 1 := by simp
      refine HDu.out.lists (vR := .slice ao Rs.length cap) (cap := cap8) (by rw [e1, ← HVQ.out]; exact HK9.out) ?_ ?_ (fun k A ty hA hty => ?_)
      · exact Qt.own_keep HOR.out (fun i A hA => HKp9.out i A _ (HFR8.out.kept i _ hA rfl) (by decide))
      · rw [e1, icells_app]
        exact Qt.own_keep HO8.out (fun i A hA => HKp9.out i A _ hA (by decide))
      · refine HKp9.out k A ty (HFR8.out.kept k _ hA ?_) ?_
        · rcases hty with rfl | rfl | rfl | rfl <;> rfl
        · rcases hty with rfl | rfl | rfl | rfl <;> decide
    have HF9 : Hid (Df base y.pb w (w8.setCell ⟨d, 3, none⟩ (.slice pa8 np1 cap8))) := by
      refine ⟨(HFu.out.below.trans HFR8.out.below).setCell HH.out.lo _, fun k o hk ho => ?_⟩
      have h7 := HFu.out.kept k o hk ho
      have hkd : k ≠ d := fun e => by
        obtain ⟨ao', cap', pc', hb', _⟩ := HH.out.row
        rw [e, hb'] at hk
        cases hk
        simp [ownD] at ho
      rw [Below.heap_setCell _ _ _ _ hkd]
      by_cases hp : some k = y.pb
      · cases o with
        | cells A ty fr => simp [ownD, hp] at ho
        | _ =>
          exact HFR8.out.kept k _ h7 rfl
      · rw [HFAR8.out k (blk_lt h7) hp]
        exact h7
    have y0 : (w8.setCell ⟨d, 3, none⟩ (.slice pa8 np1 cap8)).cell? ⟨Y, 0, none⟩ = some (i64 dv0) := bkc HY9.out 0
    have y1 : (w8.setCell ⟨d, 3, none⟩ (.slice pa8 np1 cap8)).cell? ⟨Y, 1, none⟩ = some (i64 dv1) := bkc HY9.out 1
    have y2 : (w8.setCell ⟨d, 3, none⟩ (.slice pa8 np1 cap8)).cell? ⟨Y, 2, none⟩ = some (i64 dv2) := bkc HY9.out 2
    have g0 : (w8.setCell ⟨d, 3, none⟩ (.slice pa8 np1 cap8)).cell? ⟨w.heap.size + 2, 0, none⟩ = some (i64 0) := bkc HG9.out 0
    have g1 : (w8.setCell ⟨d, 3, none⟩ (.slice pa8 np1 cap8)).cell? ⟨w.heap.size + 2, 1, none⟩ = some (i64 0) := bkc HG9.out 1
    have g2 : (w8.setCell ⟨d, 3, none⟩ (.slice pa8 np1 cap8)).cell? ⟨w.heap.size + 2, 2, none⟩ = some (i64 0) := bkc HG9.out 2
    have g3 : (w8.setCell ⟨d, 3, none⟩ (.slice pa8 np1 cap8)).cell? ⟨w.heap.size + 2, 3, none⟩ = some (i64 0) := bkc HG9.out 3
    have gf : ∀ j, (w8.setCell ⟨d, 3, none⟩ (.slice pa8 np1 cap8)).frozen? ⟨w.heap.size + 2, j, none⟩ = false := bkf HG9.out
    clear HKp9 HFAR8 HFR8 HK8 HG8 HY8 HO8 HOR HKu HY9 HK9 HRUN8 HVQ d3 k83 k8f HGu HYu HDu HFu HEu
    generalize w8.setCell ⟨d, 3, none⟩ (.slice pa8 np1 cap8) = U9 at *
    go_wp2_with fail
    exact bodyPost_ret (Cp.results_one Try.results38 rfl (load83 (set83 HG9.out 0 dv0 dv1 dv2))) rfl ⟨rfl, pb8, HPB8.out, HD9.out.set83 HG9.out _ _ _ _, HF9.out.set83 hlo (by omega) _ _ _ _⟩
end Go.Proofs.Ytnknhencobhjdaa
