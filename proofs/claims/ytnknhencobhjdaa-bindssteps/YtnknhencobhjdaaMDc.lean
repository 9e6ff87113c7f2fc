/- No statement here. -/
import Derived.Test.YtnknhencobhjdaaMDw
set_option maxRecDepth 100000
namespace Go.Proofs.Ytnknhencobhjdaa
open Go.ChangeShapes Go.WideShapes Go.ChangeAt Go.RowKit Go.Deep
open Go.Proofs.Ytnknhencobhjdaa.Cp (pq hid bl1)
attribute [local go_sem ↓] Go.wp_at_zero Go.wp_at_succ
theorem wf_cl {t : Qt.T} {s : Qt.St} (h : Qt.Wf t s) (env : Int) : Qt.Wf t (Qt.clS s env) := by
  unfold Qt.clS
  cases hx : Qt.at_ s env with
  | none => exact h
  | some x =>
    simp only
    have hz : ∀ i, Qt.upd s (env - 1).toNat none i = none ∨ Qt.upd s (env - 1).toNat none i = s i := fun i => by
      unfold Qt.upd
      by_cases hi : i = (env - 1).toNat
      · rw [if_pos hi]; exact Or.inl rfl
      · rw [if_neg hi]; exact Or.inr rfl
    have hq : ∀ i, 0 ≤ (Qt.qT (s i)).a ∧ 0 ≤ (Qt.qT (s i)).b ∧ 0 ≤ (Qt.qT (s i)).c := fun i => by
      obtain ⟨a0, a1, b0, b1, c0, c1⟩ := h.le i
      omega
    have hq2 : ∀ i, (Qt.qT (Qt.upd s (env - 1).toNat none i)).a ≤ (Qt.qT (s i)).a ∧ (Qt.qT (Qt.upd s (env - 1).toNat none i)).b ≤ (Qt.qT (s i)).b ∧ (Qt.qT (Qt.upd s (env - 1).toNat none i)).c ≤ (Qt.qT (s i)).c := fun i => by
      rcases hz i with e | e
      · rw [e]; have := hq i; exact ⟨this.1, this.2.1, this.2.2⟩
      · rw [e]; exact ⟨Int.le_refl _, Int.le_refl _, Int.le_refl _⟩
    have a0 := hq2 0; have a1 := hq2 1; have a2 := hq2 2
    have sa := h.sa; have sb := h.sb; have sc := h.sc
    refine ⟨fun i hi => ?_, h.tot, fun i => ?_, by omega, by omega, by omega⟩
    · rcases hz i with e | e
      · exact e
      · rw [e]; exact h.out i hi
    · rcases hz i with e | e
      · rw [e]; exact ⟨Int.le_refl _, Int.le_refl _, Int.le_refl _, Int.le_refl _, Int.le_refl _, Int.le_refl _⟩
      · rw [e]; exact h.le i
theorem rcap_offs {C : List Cp.Rw} {Rs : List Rt} {K : Nat → Bool} (hr : ∀ r ∈ Rs, ∃ (i : Nat) (q : Cp.Rw), r.cap = i ∧ C[i]? = some q) : ∀ r ∈ Rs, ∃ (i : Nat) (q : Cp.Rw), r.cap = i ∧ (Cp.offs K C)[i]? = some q := fun r h => by
  obtain ⟨i, q, h1, h2⟩ := hr r h
  exact ⟨i, _, h1, by rw [Cp.offs_get, h2]; rfl⟩
theorem rclos_no {w : World} {base d : Nat} {y : Dx} {t : Qt.T} {s : Qt.St} {C : List Cp.Rw} {Rs : List Rt} {P : List Int} (h : Dd w base d y t s C Rs P) (env : Int) (hop : opB s env = false) :
    Calls Try.prog 33 #[pq d, i64 env] w fun e w' => e = .returned (i64 6) ∧ Below w.heap.size w w' := by
  have hA := ropn_ok h env
  rw [hop] at hA
  have HA := hid hA
  clear hA h hop
  go_enter Try.func33, Try.ntmps33
  go_wp2_with fail
  refine HA.out.mono ?_
  rintro e w1 ⟨rfl, hb1⟩
  have HB := hid hb1
  clear hb1
  go_wp2_with fail
  go_ret
  exact ⟨rfl, HB.out⟩
set_option maxHeartbeats 2000000 in
theorem rclos_ok {w : World} {base d : Nat} {y : Dx} {t : Qt.T} {s : Qt.St} {C : List Cp.Rw} {Rs : List Rt} {P : List Int} (h : Dd w base d y t s C Rs P) (hl : Rs.length ≤ 1000) (hcl : C.length ≤ 1000) (hfw : Cp.Fw C) (hr : ∀ r ∈ Rs, ∃ (i : Nat) (q : Cp.Rw), r.cap = i ∧ C[i]? = some q) (env : Int) (hop : opB s env = true) (C' : List Cp.Rw) (hC' : C' = Cp.offs (Cp.deB C env C.length) C) (s1 : Qt.St) (hs1 : s1 = swS s (Rs.filter fun r => !alvR C' r)) :
    Calls Try.prog 33 #[pq d, i64 env] w fun e w' => e = .returned (i64 (Qt.clE (Qt.at_ s1 env))) ∧ Dd w' base d y t (Qt.clS s1 env) C' (Rs.filter (alvR C')) P ∧ Df base y.pb w w' := by
  have hA := ropn_ok h env
  rw [hop] at hA
  have HA := hid hA
  have HH := hid h
  have hlo := h.lo'
  have HDE : Hid (∀ W, Dd W base d y t s C Rs P → Calls Try.prog 65 #[pq y.kc, i64 env] W fun e w' => e = .returned (i64 (Cp.cnt C.length (Cp.deB C env C.length) : Nat)) ∧ Dd w' base d y t s C' Rs P ∧ Df base y.pb W w') := fun W hW => (Cp.rdropEnv_ok hW.cp hcl hfw env).mono fun e w' ⟨he, hrb, hf⟩ => ⟨he, by rw [hC']; exact hW.caps hrb hf, Df.of_caps hf⟩
  have HSW : Hid (∀ W, Dd W base d y t s C' Rs P → Calls Try.prog 66 #[pq d] W fun e w' => e = .returned (.tuple #[]) ∧ Dd w' base d y t s1 C' (Rs.filter (alvR C')) P ∧ Df base y.pb W w') := fun W hW => by
    rw [hs1]
    exact sweep_ok hW hl (by rw [hC', Cp.offs_len]; exact hcl) (by rw [hC']; exact rcap_offs hr)
  have HCL : Hid (∀ W, Dd W base d y t s1 C' (Rs.filter (alvR C')) P → Calls Try.prog 67 #[pq y.kb, i64 env] W fun e w' => e = .returned (i64 (Qt.clE (Qt.at_ s1 env))) ∧ Dd w' base d y t (Qt.clS s1 env) C' (Rs.filter (alvR C')) P ∧ Df base y.pb W w') := fun W hW => by
    obtain ⟨Q, hQ, hB⟩ := hW.bk
    exact (Qt.rclose_rel hB hQ env).mono fun e w' ⟨he, Q', hQ', hB', hf⟩ => ⟨he, hW.book hQ' (wf_cl hW.wf env) hB' hf, Df.of_book hf⟩
  clear hA h hop hC' hs1 hr hfw hcl hl
  generalize (Cp.cnt C.length (Cp.deB C env C.length)) = cn at *
  generalize Qt.clE (Qt.at_ s1 env) = ce at *
  go_enter Try.func33, Try.ntmps33
  go_wp2_with fail
  refine HA.out.mono ?_
  rintro e w1 ⟨rfl, hb1⟩
  have HD1 : Hid (Dd w1 base d y t s C Rs P) := HH.out.below hb1
  have HF1 : Hid (Df base y.pb w w1) := Df.of_below hb1 hlo
  obtain ⟨ao, cap, pc, hbk, _⟩ := HD1.out.row
  have d0 : w1.cell? ⟨d, 0, none⟩ = some (pq y.kc) := bkc hbk 0
  clear hb1 hbk
  go_wp2_with fail
  refine (HDE.out w1 HD1.out).mono ?_
  rintro e w2 ⟨rfl, hd2, hf2⟩
  have HD2 := hid hd2
  have HF2 : Hid (Df base y.pb w w2) := HF1.out.trans hf2 (PbOk.refl _ _)
  clear hd2 hf2 HD1 HF1 d0
  go_wp2_with fail
  refine (HSW.out w2 HD2.out).mono ?_
  rintro e w3 ⟨rfl, hd3, hf3⟩
  have HD3 := hid hd3
  have HF3 : Hid (Df base y.pb w w3) := HF2.out.trans hf3 (PbOk.refl _ _)
  obtain ⟨ao3, cap3, pc3, hbk3, _⟩ := HD3.out.row
  have d1 : w3.cell? ⟨d, 1, none⟩ = some (pq y.kb) := bkc hbk3 1
  clear hd3 hf3 HD2 HF2 hbk3
  go_wp2_with fail
  refine (HCL.out w3 HD3.out).mono ?_
  rintro e w4 ⟨rfl, hd4, hf4⟩
  have HD4 := hid hd4
  have HF4 : Hid (Df base y.pb w w4) := HF3.out.trans hf4 (PbOk.refl _ _)
  clear hd4 hf4 HD3 HF3 d1
  go_wp2_with fail
  go_ret
  exact ⟨rfl, HD4.out, HF4.out⟩
structure SqF (d X kc : Nat) (sl gn : Int) (W : World) : Prop where
  d0 : W.cell? ⟨d, 0, none⟩ = some (pq kc)
  q : W.heap[X]? = some (.cells #[i64 sl, i64 gn] 81)
theorem SqF.below {d X kc : Nat} {sl gn : Int} {W W' : World} (h : SqF d X kc sl gn W) (hb : Below W.heap.size W W') : SqF d X kc sl gn W' :=
  ⟨by rw [World.cell?_of_block (w := W) (hb.block _ (World.block_lt_of_cell? W _ h.d0))]; exact h.d0, bkb h.q hb⟩
set_option maxHeartbeats 4000000 in
theorem rfree_stale {w : World} {base d : Nat} {y : Dx} {t : Qt.T} {s : Qt.St} {C : List Cp.Rw} {Rs : List Rt} {P : List Int} (h : Dd w base d y t s C Rs P) (hcl : C.length ≤ 1000) (env sl gn : Int) (hf : Cp.fdI C env sl gn = -1) :
    Calls Try.prog 37 #[pq d, i64 env, .agg #[i64 sl, i64 gn]] w fun e w' => e = .returned (i64 90) ∧ Below w.heap.size w w' := by
  obtain ⟨V, hV⟩ : ∃ V, V = w.alloc (.cells #[i64 sl, i64 gn] 81) := ⟨_, rfl⟩
  have HV : Hid (w.alloc (.cells #[i64 sl, i64 gn] 81) = V) := hV.symm
  have hbV : Below w.heap.size w V := by rw [hV]; exact bl1 w _
  have HQ : Hid (V.heap[w.heap.size]? = some (.cells #[i64 sl, i64 gn] 81)) := by rw [hV]; exact hlx w _
  have HDV := hid (h.below hbV)
  have HBV := hid hbV
  have hlo := h.lo'
  have HA := hid (Cp.rfind_ok (HDV.out.drew.cp) hcl env sl gn)
  obtain ⟨ao, cap, pc, hbk, _⟩ := HDV.out.row
  have HS : Hid (SqF d w.heap.size y.kc sl gn V.drew) := ⟨bkc hbk 0, HQ.out⟩
  rw [hf] at HA
  clear h hV hbV hbk hf
  go_enter Try.func37, Try.ntmps37
  go_upto_region 1 with fail
  rw [HV.out]
  refine wp_region_noPanic ?_
  refine wrl (SqF d w.heap.size y.kc sl gn) 7 (by kernel_rfl) ?_
  refine wk 0 8 (.pointer (some ⟨d, 0, none⟩)) rfl HS.out (fun W hW => by have q0 := bkc hW.q 0; have q1 := bkc hW.q 1; have d0 := hW.d0; go_simp) ?_
  refine wk 1 9 (.pointer (some ⟨d, 0, none⟩)) rfl HS.out (fun W hW => by have q0 := bkc hW.q 0; have q1 := bkc hW.q 1; have d0 := hW.d0; go_simp) ?_
  refine wk 2 10 (.pointer (some ⟨d, 0, none⟩)) rfl HS.out (fun W hW => by have q0 := bkc hW.q 0; have q1 := bkc hW.q 1; have d0 := hW.d0; go_simp) ?_
  refine wk 3 11 (.pointer (some ⟨y.kc, 0, none⟩)) rfl HS.out (fun W hW => by have q0 := bkc hW.q 0; have q1 := bkc hW.q 1; have d0 := hW.d0; go_simp) ?_
  refine wk 4 12 (i64 env) rfl HS.out (fun W hW => by have q0 := bkc hW.q 0; have q1 := bkc hW.q 1; have d0 := hW.d0; go_simp) ?_
  refine wk 5 13 (.agg #[i64 sl, i64 gn]) rfl HS.out (fun W hW => by have q0 := bkc hW.q 0; have q1 := bkc hW.q 1; have d0 := hW.d0; go_simp) ?_
  simp only [Act.put, sA, sZ, sS]
  refine wo 6 rfl (fun K hK => ?_)
  go_simp
  refine HA.out.mono ?_
  rintro e w1 ⟨rfl, hb1⟩
  have HS1 : Hid (SqF d w.heap.size y.kc sl gn w1) := HS.out.below hb1
  have HD1 : Hid (Dd w1 base d y t s C Rs P) := HDV.out.drew.below hb1
  have HB1 : Hid (Below w.heap.size w w1) := HBV.out.drew.trans (hb1.mono HBV.out.size)
  clear hb1 HA
  go_simp
  refine hK.out _ _ (fun _ => HS1.out) ?_
  clear hK K
  refine wo 7 rfl (fun K hK => ?_)
  go_simp
  refine hK.out _ _ (fun h => absurd rfl h) ?_
  clear hK K
  refine wdd ?_
  refine NoPanic.normal ?_
  go_wp2_with fail
  go_ret
  exact ⟨rfl, HB1.out⟩
set_option maxHeartbeats 4000000 in
theorem rfree_right {w : World} {base d : Nat} {y : Dx} {t : Qt.T} {s : Qt.St} {C : List Cp.Rw} {Rs : List Rt} {P : List Int} (h : Dd w base d y t s C Rs P) (hcl : C.length ≤ 1000) (env sl gn : Int) (k : Nat) (q : Cp.Rw) (hf : Cp.fdI C env sl gn = k) (hq : C[k]? = some q) (j : Nat) (hj : q.fr = j) :
    Calls Try.prog 37 #[pq d, i64 env, .agg #[i64 sl, i64 gn]] w fun e w' => e = .returned (i64 91) ∧ Below w.heap.size w w' := by
  obtain ⟨V, hV⟩ : ∃ V, V = w.alloc (.cells #[i64 sl, i64 gn] 81) := ⟨_, rfl⟩
  have HV : Hid (w.alloc (.cells #[i64 sl, i64 gn] 81) = V) := hV.symm
  have hbV : Below w.heap.size w V := by rw [hV]; exact bl1 w _
  have HQ : Hid (V.heap[w.heap.size]? = some (.cells #[i64 sl, i64 gn] 81)) := by rw [hV]; exact hlx w _
  have HDV := hid (h.below hbV)
  have HBV := hid hbV
  have hlo := h.lo'
  have HA := hid (Cp.rfind_ok (HDV.out.drew.cp) hcl env sl gn)
  obtain ⟨ao, cap, pc, hbk, _⟩ := HDV.out.row
  have HS : Hid (SqF d w.heap.size y.kc sl gn V.drew) := ⟨bkc hbk 0, HQ.out⟩
  rw [hf] at HA
  have HQ2 := hid hq
  have HJ := hid hj
  have hkl : k < C.length := (List.getElem?_eq_some_iff.1 hq).1
  clear h hV hbV hbk hf hq hj
  go_enter Try.func37, Try.ntmps37
  go_upto_region 1 with fail
  rw [HV.out]
  refine wp_region_noPanic ?_
  refine wrl (SqF d w.heap.size y.kc sl gn) 7 (by kernel_rfl) ?_
  refine wk 0 8 (.pointer (some ⟨d, 0, none⟩)) rfl HS.out (fun W hW => by have q0 := bkc hW.q 0; have q1 := bkc hW.q 1; have d0 := hW.d0; go_simp) ?_
  refine wk 1 9 (.pointer (some ⟨d, 0, none⟩)) rfl HS.out (fun W hW => by have q0 := bkc hW.q 0; have q1 := bkc hW.q 1; have d0 := hW.d0; go_simp) ?_
  refine wk 2 10 (.pointer (some ⟨d, 0, none⟩)) rfl HS.out (fun W hW => by have q0 := bkc hW.q 0; have q1 := bkc hW.q 1; have d0 := hW.d0; go_simp) ?_
  refine wk 3 11 (.pointer (some ⟨y.kc, 0, none⟩)) rfl HS.out (fun W hW => by have q0 := bkc hW.q 0; have q1 := bkc hW.q 1; have d0 := hW.d0; go_simp) ?_
  refine wk 4 12 (i64 env) rfl HS.out (fun W hW => by have q0 := bkc hW.q 0; have q1 := bkc hW.q 1; have d0 := hW.d0; go_simp) ?_
  refine wk 5 13 (.agg #[i64 sl, i64 gn]) rfl HS.out (fun W hW => by have q0 := bkc hW.q 0; have q1 := bkc hW.q 1; have d0 := hW.d0; go_simp) ?_
  simp only [Act.put, sA, sZ, sS]
  refine wo 6 rfl (fun K hK => ?_)
  go_simp
  refine HA.out.mono ?_
  rintro e w1 ⟨rfl, hb1⟩
  have HS1 : Hid (SqF d w.heap.size y.kc sl gn w1) := HS.out.below hb1
  have HD1 : Hid (Dd w1 base d y t s C Rs P) := HDV.out.drew.below hb1
  have HB1 : Hid (Below w.heap.size w w1) := HBV.out.drew.trans (hb1.mono HBV.out.size)
  clear hb1 HA
  go_simp
  refine hK.out _ _ (fun _ => HS1.out) ?_
  clear hK K
  refine wo 7 rfl (fun K hK => ?_)
  go_simp
  refine hK.out _ _ (fun h => absurd rfl h) ?_
  clear hK K
  refine wdd ?_
  refine NoPanic.normal ?_
  obtain ⟨ao2, cap2, pc2, hbk2, _⟩ := HD1.out.row
  obtain ⟨aoc, capc, hbc, _, hcc, hcrow⟩ := HD1.out.cp.row
  obtain ⟨gc, rfl, _, _, _, _, hc6⟩ := hcrow k q HQ2.out
  have d0 : w1.cell? ⟨d, 0, none⟩ = some (pq y.kc) := bkc hbk2 0
  have e0 : w1.cell? ⟨y.kc, 0, none⟩ = some (.slice (some ⟨gc, 0, none⟩) C.length capc) := bkc hbc 0
  have f6 : w1.cell? ⟨gc, k * 8 + 6, none⟩ = some (i64 (j : Int)) := by rw [← HJ.out]; exact hc6 6 (by omega)
  have hkI : (k : Int) < C.length := by omega
  have hcI : (C.length : Int) ≤ capc := by omega
  have hclI : (C.length : Int) ≤ 1000 := by omega
  have hdk : decide ((k : Int) < 0) = false := decide_eq_false (by omega)
  have hdj : decide ((0 : Int) ≤ (j : Int)) = true := decide_eq_true (by omega)
  obtain ⟨M, hM⟩ : ∃ M, M = C.length := ⟨_, rfl⟩
  rw [← hM] at e0 hkI hcI hclI
  clear hbk2 hbc hcrow hc6 hM
  go_wp2_with fail
  go_ret
  exact ⟨rfl, HB1.out⟩
set_option maxHeartbeats 4000000 in
theorem rfree_ok {w : World} {base d : Nat} {y : Dx} {t : Qt.T} {s : Qt.St} {C : List Cp.Rw} {Rs : List Rt} {P : List Int} (h : Dd w base d y t s C Rs P) (hcl : C.length ≤ 1000) (env sl gn : Int) (hl : Rs.length ≤ 1000) (hfw : Cp.Fw C) (hr : ∀ r ∈ Rs, ∃ (i : Nat) (q : Cp.Rw), r.cap = i ∧ C[i]? = some q) (k : Nat) (q : Cp.Rw) (hf : Cp.fdI C env sl gn = k) (hq : C[k]? = some q) (hj : q.fr = -1) (C' : List Cp.Rw) (hC' : C' = Cp.offs (Cp.klB C k true) C) :
    Calls Try.prog 37 #[pq d, i64 env, .agg #[i64 sl, i64 gn]] w fun e w' => e = .returned (i64 0) ∧ Dd w' base d y t (swS s (Rs.filter fun r => !alvR C' r)) C' (Rs.filter (alvR C')) P ∧ Df base y.pb w w' := by
  obtain ⟨V, hV⟩ : ∃ V, V = w.alloc (.cells #[i64 sl, i64 gn] 81) := ⟨_, rfl⟩
  have HV : Hid (w.alloc (.cells #[i64 sl, i64 gn] 81) = V) := hV.symm
  have hbV : Below w.heap.size w V := by rw [hV]; exact bl1 w _
  have HQ : Hid (V.heap[w.heap.size]? = some (.cells #[i64 sl, i64 gn] 81)) := by rw [hV]; exact hlx w _
  have HDV := hid (h.below hbV)
  have HBV := hid hbV
  have hlo := h.lo'
  have HA := hid (Cp.rfind_ok (HDV.out.drew.cp) hcl env sl gn)
  obtain ⟨ao, cap, pc, hbk, _⟩ := HDV.out.row
  have HS : Hid (SqF d w.heap.size y.kc sl gn V.drew) := ⟨bkc hbk 0, HQ.out⟩
  rw [hf] at HA
  have HQ2 := hid hq
  have HJ := hid hj
  have hkl : k < C.length := (List.getElem?_eq_some_iff.1 hq).1
  have HSW : Hid (∀ W, Dd W base d y t s C' Rs P → Calls Try.prog 66 #[pq d] W fun e w' => e = .returned (.tuple #[]) ∧ Dd w' base d y t (swS s (Rs.filter fun r => !alvR C' r)) C' (Rs.filter (alvR C')) P ∧ Df base y.pb W w') := fun W hW => sweep_ok hW hl (by rw [hC', Cp.offs_len]; exact hcl) (by rw [hC']; exact rcap_offs hr)
  have HDR0 : Hid (∀ W, Dd W base d y t s C Rs P → Calls Try.prog 39 #[pq y.kc, i64 env, .agg #[i64 sl, i64 gn], .bool true] W fun e w' => e = .returned (.tuple #[i64 (Cp.cnt C.length (Cp.klB C k true) : Nat), i64 0]) ∧ Cp.Rb w' base y.kc (Cp.offs (Cp.klB C k true) C) ∧ Fr base [99, 96] W w') := fun W hW => Cp.rdrop_ok hW.cp hcl hfw env sl gn true k hf
  have HC' := hid hC'
  clear h hV hbV hbk hf hq hj hC' hr hfw hl
  generalize Cp.cnt C.length (Cp.klB C k true) = cn at *
  go_enter Try.func37, Try.ntmps37
  go_upto_region 1 with fail
  rw [HV.out]
  refine wp_region_noPanic ?_
  refine wrl (SqF d w.heap.size y.kc sl gn) 7 (by kernel_rfl) ?_
  refine wk 0 8 (.pointer (some ⟨d, 0, none⟩)) rfl HS.out (fun W hW => by have q0 := bkc hW.q 0; have q1 := bkc hW.q 1; have d0 := hW.d0; go_simp) ?_
  refine wk 1 9 (.pointer (some ⟨d, 0, none⟩)) rfl HS.out (fun W hW => by have q0 := bkc hW.q 0; have q1 := bkc hW.q 1; have d0 := hW.d0; go_simp) ?_
  refine wk 2 10 (.pointer (some ⟨d, 0, none⟩)) rfl HS.out (fun W hW => by have q0 := bkc hW.q 0; have q1 := bkc hW.q 1; have d0 := hW.d0; go_simp) ?_
  refine wk 3 11 (.pointer (some ⟨y.kc, 0, none⟩)) rfl HS.out (fun W hW => by have q0 := bkc hW.q 0; have q1 := bkc hW.q 1; have d0 := hW.d0; go_simp) ?_
  refine wk 4 12 (i64 env) rfl HS.out (fun W hW => by have q0 := bkc hW.q 0; have q1 := bkc hW.q 1; have d0 := hW.d0; go_simp) ?_
  refine wk 5 13 (.agg #[i64 sl, i64 gn]) rfl HS.out (fun W hW => by have q0 := bkc hW.q 0; have q1 := bkc hW.q 1; have d0 := hW.d0; go_simp) ?_
  simp only [Act.put, sA, sZ, sS]
  refine wo 6 rfl (fun K hK => ?_)
  go_simp
  refine HA.out.mono ?_
  rintro e w1 ⟨rfl, hb1⟩
  have HS1 : Hid (SqF d w.heap.size y.kc sl gn w1) := HS.out.below hb1
  have HD1 : Hid (Dd w1 base d y t s C Rs P) := HDV.out.drew.below hb1
  have HB1 : Hid (Below w.heap.size w w1) := HBV.out.drew.trans (hb1.mono HBV.out.size)
  clear hb1 HA
  go_simp
  refine hK.out _ _ (fun _ => HS1.out) ?_
  clear hK K
  refine wo 7 rfl (fun K hK => ?_)
  go_simp
  refine hK.out _ _ (fun h => absurd rfl h) ?_
  clear hK K
  refine wdd ?_
  refine NoPanic.normal ?_
  obtain ⟨ao2, cap2, pc2, hbk2, _⟩ := HD1.out.row
  obtain ⟨aoc, capc, hbc, _, hcc, hcrow⟩ := HD1.out.cp.row
  obtain ⟨gc, rfl, _, _, _, _, hc6⟩ := hcrow k q HQ2.out
  have d0 : w1.cell? ⟨d, 0, none⟩ = some (pq y.kc) := bkc hbk2 0
  have e0 : w1.cell? ⟨y.kc, 0, none⟩ = some (.slice (some ⟨gc, 0, none⟩) C.length capc) := bkc hbc 0
  have f6 : w1.cell? ⟨gc, k * 8 + 6, none⟩ = some (i64 (-1)) := by rw [← HJ.out]; exact hc6 6 (by omega)
  have hkI : (k : Int) < C.length := by omega
  have hcI : (C.length : Int) ≤ capc := by omega
  have hclI : (C.length : Int) ≤ 1000 := by omega
  have hdk : decide ((k : Int) < 0) = false := decide_eq_false (by omega)
  obtain ⟨M, hM⟩ : ∃ M, M = C.length := ⟨_, rfl⟩
  rw [← hM] at e0 hkI hcI hclI
  clear hbk2 hbc hcrow hc6 hM
  go_upto_region 6 with fail
  have HS2 : Hid (SqF d w.heap.size y.kc sl gn w1.drew) := ⟨HS1.out.d0, HS1.out.q⟩
  have HD2 := HD1
  have HB2 := HB1
  have HDR := hid (HDR0.out w1.drew HD1.out.drew)
  clear d0 e0 f6 hkI hcI hclI hdk
  refine wp_region_noPanic ?_
  refine wrl (SqF d w.heap.size y.kc sl gn) 6 (by kernel_rfl) ?_
  refine wkp 0 29 (.pointer (some ⟨d, 0, none⟩)) [1, 2, 3] rfl HS2.out (fun W hW => by have q0 := bkc hW.q 0; have q1 := bkc hW.q 1; have d0 := hW.d0; go_simp) ?_
  refine wkp 1 30 (.pointer (some ⟨d, 0, none⟩)) [2, 3] rfl HS2.out (fun W hW => by have q0 := bkc hW.q 0; have q1 := bkc hW.q 1; have d0 := hW.d0; go_simp) ?_
  refine wkp 2 31 (.pointer (some ⟨d, 0, none⟩)) [3] rfl HS2.out (fun W hW => by have q0 := bkc hW.q 0; have q1 := bkc hW.q 1; have d0 := hW.d0; go_simp) ?_
  refine wk 3 32 (.pointer (some ⟨y.kc, 0, none⟩)) rfl HS2.out (fun W hW => by have q0 := bkc hW.q 0; have q1 := bkc hW.q 1; have d0 := hW.d0; go_simp) ?_
  refine wk 4 33 (i64 env) rfl HS2.out (fun W hW => by have q0 := bkc hW.q 0; have q1 := bkc hW.q 1; have d0 := hW.d0; go_simp) ?_
  refine wk 5 34 (.agg #[i64 sl, i64 gn]) rfl HS2.out (fun W hW => by have q0 := bkc hW.q 0; have q1 := bkc hW.q 1; have d0 := hW.d0; go_simp) ?_
  simp only [Act.put, sA, sZ, sS]
  refine wo 6 rfl (fun K hK => ?_)
  go_simp
  refine HDR.out.mono ?_
  rintro e w3 ⟨rfl, hr3, hf3⟩
  have HD3 : Hid (Dd w3 base d y t s (Cp.offs (Cp.klB C k true) C) Rs P) := HD2.out.drew.caps hr3 hf3
  have HF3 : Hid (Df base y.pb w w3) := (Df.of_below (HB2.out.drew) hlo).trans (Df.of_caps hf3) (PbOk.refl _ _)
  clear hr3 hf3 HDR
  go_simp
  refine hK.out _ _ (fun h => absurd rfl h) ?_
  clear hK K
  refine wdd ?_
  refine NoPanic.normal ?_
  rw [← HC'.out] at HD3
  go_wp2_with fail
  refine (HSW.out w3 HD3.out).mono ?_
  rintro e w4 ⟨rfl, hd4, hf4⟩
  have HD4 := hid hd4
  have HF4 : Hid (Df base y.pb w w4) := HF3.out.trans hf4 (PbOk.refl _ _)
  clear hd4 hf4
  go_wp2_with fail
  go_ret
  exact ⟨rfl, HD4.out, HF4.out⟩
def rnV (C : List Cp.Rw) (i kind : Int) : Int × Int := if i < 0 then (0, 90) else match C[i.toNat]? with
  | some q => if q.c.kind = kind then (if q.c.rts = 2 then (0, 91) else (q.c.num, 0)) else (0, 1)
  | none => (0, 90)
set_option maxHeartbeats 4000000 in
theorem rnumber_ok {w : World} {base d : Nat} {y : Dx} {t : Qt.T} {s : Qt.St} {C : List Cp.Rw} {Rs : List Rt} {P : List Int} (h : Dd w base d y t s C Rs P) (hcl : C.length ≤ 1000) (env sl gn : Int) (kind : Int) (nv ne : Int) (hv : rnV C (Cp.fdI C env sl gn) kind = (nv, ne)) :
    Calls Try.prog 40 #[pq d, i64 env, .agg #[i64 sl, i64 gn], i64 kind] w fun e w' => e = .returned (.tuple #[i64 nv, i64 ne]) ∧ Below w.heap.size w w' := by
  obtain ⟨V, hV⟩ : ∃ V, V = w.alloc (.cells #[i64 sl, i64 gn] 81) := ⟨_, rfl⟩
  have HV : Hid (w.alloc (.cells #[i64 sl, i64 gn] 81) = V) := hV.symm
  have hbV : Below w.heap.size w V := by rw [hV]; exact bl1 w _
  have HQ : Hid (V.heap[w.heap.size]? = some (.cells #[i64 sl, i64 gn] 81)) := by rw [hV]; exact hlx w _
  have HDV := hid (h.below hbV)
  have HBV := hid hbV
  have hlo := h.lo'
  have HA := hid (Cp.rfind_ok (HDV.out.drew.cp) hcl env sl gn)
  obtain ⟨ao, cap, pc, hbk, _⟩ := HDV.out.row
  have HS : Hid (SqF d w.heap.size y.kc sl gn V.drew) := ⟨bkc hbk 0, HQ.out⟩
  rcases Cp.fdI_cases C env sl gn with ⟨hf, _⟩ | ⟨k, q, hf, _, hq, _⟩
  · rw [hf] at HA hv
    have hv2 : (0 : Int) = nv ∧ (90 : Int) = ne := by simpa [rnV] using hv
    obtain ⟨rfl, rfl⟩ := hv2
    clear h hV hbV hbk hf hv
    go_enter Try.func40, Try.ntmps40
    go_upto_region 1 with fail
    rw [HV.out]
    refine wp_region_noPanic ?_
    refine wrl (SqF d w.heap.size y.kc sl gn) 7 (by kernel_rfl) ?_
    refine wk 0 12 (.pointer (some ⟨d, 0, none⟩)) rfl HS.out (fun W hW => by have q0 := bkc hW.q 0; have q1 := bkc hW.q 1; have d0 := hW.d0; go_simp) ?_
    refine wk 1 13 (.pointer (some ⟨d, 0, none⟩)) rfl HS.out (fun W hW => by have q0 := bkc hW.q 0; have q1 := bkc hW.q 1; have d0 := hW.d0; go_simp) ?_
    refine wk 2 14 (.pointer (some ⟨d, 0, none⟩)) rfl HS.out (fun W hW => by have q0 := bkc hW.q 0; have q1 := bkc hW.q 1; have d0 := hW.d0; go_simp) ?_
    refine wk 3 15 (.pointer (some ⟨y.kc, 0, none⟩)) rfl HS.out (fun W hW => by have q0 := bkc hW.q 0; have q1 := bkc hW.q 1; have d0 := hW.d0; go_simp) ?_
    refine wk 4 16 (i64 env) rfl HS.out (fun W hW => by have q0 := bkc hW.q 0; have q1 := bkc hW.q 1; have d0 := hW.d0; go_simp) ?_
    refine wk 5 17 (.agg #[i64 sl, i64 gn]) rfl HS.out (fun W hW => by have q0 := bkc hW.q 0; have q1 := bkc hW.q 1; have d0 := hW.d0; go_simp) ?_
    simp only [Act.put, sA, sZ, sS]
    refine wo 6 rfl (fun K hK => ?_)
    go_simp
    refine HA.out.mono ?_
    rintro e w1 ⟨rfl, hb1⟩
    have HS1 : Hid (SqF d w.heap.size y.kc sl gn w1) := HS.out.below hb1
    have HD1 : Hid (Dd w1 base d y t s C Rs P) := HDV.out.drew.below hb1
    have HB1 : Hid (Below w.heap.size w w1) := HBV.out.drew.trans (hb1.mono HBV.out.size)
    clear hb1 HA
    go_simp
    refine hK.out _ _ (fun _ => HS1.out) ?_
    clear hK K
    refine wo 7 rfl (fun K hK => ?_)
    go_simp
    refine hK.out _ _ (fun h => absurd rfl h) ?_
    clear hK K
    refine wdd ?_
    refine NoPanic.normal ?_
    go_wp2_with fail
    go_ret2
    exact ⟨rfl, HB1.out⟩
  · rw [hf] at HA hv
    have HQ2 := hid hq
    have hkl : k < C.length := (List.getElem?_eq_some_iff.1 hq).1
    have hv2 : (if q.c.kind = kind then (if q.c.rts = 2 then ((0 : Int), (91 : Int)) else (q.c.num, 0)) else (0, 1)) = (nv, ne) := by
      have e : rnV C (k : Int) kind = (if q.c.kind = kind then (if q.c.rts = 2 then ((0 : Int), (91 : Int)) else (q.c.num, 0)) else (0, 1)) := by
        unfold rnV
        rw [if_neg (by omega), Int.toNat_natCast, hq]
      rw [← e]
      exact hv
    have HV2 := hid hv2
    clear h hV hbV hbk hf hq hv hv2
    go_enter Try.func40, Try.ntmps40
    go_upto_region 1 with fail
    rw [HV.out]
    refine wp_region_noPanic ?_
    refine wrl (SqF d w.heap.size y.kc sl gn) 7 (by kernel_rfl) ?_
    refine wk 0 12 (.pointer (some ⟨d, 0, none⟩)) rfl HS.out (fun W hW => by have q0 := bkc hW.q 0; have q1 := bkc hW.q 1; have d0 := hW.d0; go_simp) ?_
    refine wk 1 13 (.pointer (some ⟨d, 0, none⟩)) rfl HS.out (fun W hW => by have q0 := bkc hW.q 0; have q1 := bkc hW.q 1; have d0 := hW.d0; go_simp) ?_
    refine wk 2 14 (.pointer (some ⟨d, 0, none⟩)) rfl HS.out (fun W hW => by have q0 := bkc hW.q 0; have q1 := bkc hW.q 1; have d0 := hW.d0; go_simp) ?_
    refine wk 3 15 (.pointer (some ⟨y.kc, 0, none⟩)) rfl HS.out (fun W hW => by have q0 := bkc hW.q 0; have q1 := bkc hW.q 1; have d0 := hW.d0; go_simp) ?_
    refine wk 4 16 (i64 env) rfl HS.out (fun W hW => by have q0 := bkc hW.q 0; have q1 := bkc hW.q 1; have d0 := hW.d0; go_simp) ?_
    refine wk 5 17 (.agg #[i64 sl, i64 gn]) rfl HS.out (fun W hW => by have q0 := bkc hW.q 0; have q1 := bkc hW.q 1; have d0 := hW.d0; go_simp) ?_
    simp only [Act.put, sA, sZ, sS]
    refine wo 6 rfl (fun K hK => ?_)
    go_simp
    refine HA.out.mono ?_
    rintro e w1 ⟨rfl, hb1⟩
    have HS1 : Hid (SqF d w.heap.size y.kc sl gn w1) := HS.out.below hb1
    have HD1 : Hid (Dd w1 base d y t s C Rs P) := HDV.out.drew.below hb1
    have HB1 : Hid (Below w.heap.size w w1) := HBV.out.drew.trans (hb1.mono HBV.out.size)
    clear hb1 HA
    go_simp
    refine hK.out _ _ (fun _ => HS1.out) ?_
    clear hK K
    refine wo 7 rfl (fun K hK => ?_)
    go_simp
    refine hK.out _ _ (fun h => absurd rfl h) ?_
    clear hK K
    refine wdd ?_
    refine NoPanic.normal ?_
    obtain ⟨ao2, cap2, pc2, hbk2, _⟩ := HD1.out.row
    obtain ⟨aoc, capc, hbc, _, hcc, hcrow⟩ := HD1.out.cp.row
    obtain ⟨gc, rfl, _, hgl, _, _, hc6⟩ := hcrow k q HQ2.out
    have d0 : w1.cell? ⟨d, 0, none⟩ = some (pq y.kc) := bkc hbk2 0
    have e0 : w1.cell? ⟨y.kc, 0, none⟩ = some (.slice (some ⟨gc, 0, none⟩) C.length capc) := bkc hbc 0
    have c0 : w1.cell? ⟨gc, k * 8, none⟩ = some (i64 q.c.env) := hc6 0 (by omega)
    have c1 : w1.cell? ⟨gc, k * 8 + 1, none⟩ = some (i64 q.c.kind) := hc6 1 (by omega)
    have c2 : w1.cell? ⟨gc, k * 8 + 2, none⟩ = some (i64 q.c.num) := hc6 2 (by omega)
    have c3 : w1.cell? ⟨gc, k * 8 + 3, none⟩ = some (i64 q.c.rts) := hc6 3 (by omega)
    have c4 : w1.cell? ⟨gc, k * 8 + 4, none⟩ = some (i64 q.sl) := hc6 4 (by omega)
    have c5 : w1.cell? ⟨gc, k * 8 + 5, none⟩ = some (i64 q.gn) := hc6 5 (by omega)
    have c6 : w1.cell? ⟨gc, k * 8 + 6, none⟩ = some (i64 q.fr) := hc6 6 (by omega)
    have c7 : w1.cell? ⟨gc, k * 8 + 7, none⟩ = some (.bool q.lv) := hc6 7 (by omega)
    have hkI : (k : Int) < C.length := by omega
    have hcI : (C.length : Int) ≤ capc := by omega
    have hclI : (C.length : Int) ≤ 1000 := by omega
    have hdk : decide ((k : Int) < 0) = false := decide_eq_false (by omega)
    have HB2 : Hid (∀ o, Below w.heap.size w (w1.alloc o)) := fun o => HB1.out.alloc HB1.out.size o
    obtain ⟨M, hM⟩ : ∃ M, M = C.length := ⟨_, rfl⟩
    rw [← hM] at e0 hkI hcI hclI
    clear hbk2 hbc hcrow hc6 hM
    by_cases hkd : q.c.kind = kind
    · have hq1 : (q.c.kind == kind) = true := by simpa using hkd
      have hn1 : (q.c.kind != kind) = false := by simp [hkd]
      by_cases hr2 : q.c.rts = 2
      · have hq2 : (q.c.rts == 2) = true := by simpa using hr2
        obtain ⟨rfl, rfl⟩ : (0 : Int) = nv ∧ (91 : Int) = ne := by have := HV2.out; rw [if_pos hkd, if_pos hr2] at this; simpa using this
        clear hkd hr2 HV2
        go_wp2_with fail
        go_ret2
        exact ⟨rfl, HB2.out _⟩
      · have hq2 : (q.c.rts == 2) = false := by simpa using hr2
        obtain ⟨rfl, rfl⟩ : q.c.num = nv ∧ (0 : Int) = ne := by have := HV2.out; rw [if_pos hkd, if_neg hr2] at this; simpa using this
        clear hkd hr2 HV2
        go_wp2_with fail
        go_ret2
        exact ⟨rfl, HB2.out _⟩
    · have hq1 : (q.c.kind == kind) = false := by simpa using hkd
      have hn1 : (q.c.kind != kind) = true := by simp [hkd]
      obtain ⟨rfl, rfl⟩ : (0 : Int) = nv ∧ (1 : Int) = ne := by have := HV2.out; rw [if_neg hkd] at this; simpa using this
      clear hkd HV2
      go_wp2_with fail
      go_ret2
      exact ⟨rfl, HB2.out _⟩
end Go.Proofs.Ytnknhencobhjdaa
