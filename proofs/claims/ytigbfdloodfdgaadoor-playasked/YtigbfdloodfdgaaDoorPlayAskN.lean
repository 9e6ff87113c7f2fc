/- PlayAsked's walk where Run has no error, its arguments, and the walk as a whole; no statement is proved in this text. -/
import Derived.Test.YtigbfdloodfdgaaDoorPlayAskM
import Derived.Test.YtigbfdloodfdgaaDoorPlayLaid
namespace Go.Proofs.YtigbfdloodfdgaaDoor
open Go.ChangeShapes Go.WideShapes Go.ChangeAt Go.RowKit



set_option maxRecDepth 100000 in
set_option maxHeartbeats 1600000 in
theorem ask_in (w : World) (ht : Tab w) (l m : List UInt8) (ao bo : Option Addr) (cap kap : Nat) (A B : List Int) (F : Nat) (hlb : decide (600 < l.length ∨ 600 < m.length ∨ 100 < A.length) = false) (f1 : F ≤ 300) (hkB : B.length ≤ 100) (hl : l.length ≤ 256) (hm : m.length ≤ 256) (ha : ASl w w.heap.size w.heap.size (.slice ao A.length cap) A) (hbb : ASl w w.heap.size w.heap.size (.slice bo B.length kap) B) (na : ao = none → cap = 0 ∧ A = []) (nb : bo = none → kap = 0 ∧ B = []) :
    Calls Tryd.prog 6 #[jobV l m ao A.length cap, i64 F, .slice bo B.length kap] w fun e w' => e = .returned (.bool true) ∧ Below w.heap.size w w' := by
  have hA100 : A.length ≤ 100 := by simp at hlb; omega
  have HTB := hid ht
  have HL := hid (fun v => long_b v l m ao A.length cap false hlb)
  have HC := hid (fun v (hv : Tab v) => call8_ok v hv)
  have HR := hid (fun v (hv : Below w.heap.size w v) => run_in v (ht.below hv) l m ao cap A F _ rfl hl hm (by omega) (ha.at hv))
  have HRG := hid (itP_rg l (s0P_ok hm A))
  have hkb : (itP l F (s0P m A)).2.2.K.length ≤ 300 := by have := itP_Kn l (s0P m A) F; have h0 : (s0P m A).K.length = 0 := rfl; omega
  have hc1 := HRG.out F
  have HAS := hid (fun B h j s hr hB => run_asked l m A B F h j s hr hB)
  have HAP := hid (fun v (hv : Below w.heap.size w v) => both (ha.low hv) (hbb.low hv) na nb (by omega))
  have HAT := hid (fun v (hv : Below w.heap.size w v) => ha.at hv)
  have HRU := hid (fun v (hv : Below w.heap.size w v) a c A (hA : ASl v v.heap.size (v.heap.size + 1) (.slice a A.length c) A) => run_in v (ht.below hv) l m a c A F _ rfl hl hm (by omega) hA)
  have hcap : A.length ≤ cap := by obtain ⟨ao', cap', e1, e2, _, _⟩ := ha.ex; simp only [Value.slice.injEq, true_and] at e1; rw [e1.2]; exact e2
  generalize hr1 : itP l F (s0P m A) = r1 at *
  obtain ⟨h1, j1, s1⟩ := r1
  simp only at hkb
  have HC1 := hid hc1.rg
  clear ht hlb hc1 ha hbb HRG hr1
  obtain ⟨b, hb⟩ : ∃ b, w.heap.size = b := ⟨_, rfl⟩
  have HJ := hid (fun v h => job_cells (w := w) (v := v) (l := l) (m := m) (ao := ao) (n := A.length) (cap := cap) hb.symm h)
  have hFI : (F : Int) ≤ 300 := by omega
  have hBI : (B.length : Int) ≤ 100 := by omega
  go_enter Tryd.func6, Tryd.ntmps6
  go_upto_region 3 with (first
      | (go_at_call 7; refine (HL.out _).mono ?_; rintro e v1 ⟨rfl, h1⟩; rw [World.size_alloc, hb] at h1; have HBa := hid h1; clear h1))
  obtain ⟨a0, a1, a2⟩ := HJ.out _ HBa.out
  go_upto_region 4 with (first
    | (go_at_call 9; refine (HR.out _ (jw hb HBa.out)).mono ?_; rintro e v2 ⟨vc, rfl, h2, h3⟩; obtain ⟨o1, c1, rfl, hcc1, hg1⟩ := own_cells h2; have HB2 := hid h3; have HST1 := hid (res_stored v2 (h := hwP h1) (j := j1) HC1.out s1.M (.slice o1 s1.K.length c1)); clear h2 h3 hg1)
    | (refine wpList_store_mid rfl 33 (.tmp 7) (.tmp 39) rfl v2.heap.size 0 (resC (hwP h1) j1 s1.C s1.M (.slice o1 s1.K.length c1)).toArray rfl rfl (by exact HST1.out.2.2.1) (by rw [List.size_toArray, resC_len HC1.out]; exact infoR33) (by exact res_one _ _ _ _ _ _ _) ?_))
  have HB3 := hid (jb hb (jb hb HBa.out HB2.out) HST1.out.2.1)
  have HP3 : Hid (Res ((v2.alloc Z33).setCells v2.heap.size 0 (resC (hwP h1) j1 s1.C s1.M (.slice o1 s1.K.length c1))) v2.heap.size (hwP h1) j1 s1.C s1.M o1 s1.K.length c1) := ⟨HST1.out.1, HC1.out⟩
  clear a0 a1 a2 HST1 HB2 HBa
  obtain ⟨a0, a1, a2⟩ := HJ.out _ HB3.out
  generalize (v2.alloc Z33).setCells v2.heap.size 0 (resC (hwP h1) j1 s1.C s1.M (.slice o1 s1.K.length c1)) = V3 at *
  generalize v2.heap.size = p at *
  obtain ⟨p0, p1, p11, p12, pr⟩ := HP3.out.cells
  have HBW := hid (jw hb HB3.out)
  clear pr
  by_cases hmore : A.length < s1.K.length
  · have hmI : (A.length : Int) < s1.K.length := by omega
    go_wp2_with (go_at_call 8; refine (HC.out _ (HTB.out.below HBW.out)).mono ?_; rintro e v6 ⟨rfl, r2⟩; have HB6 : Hid (Below w.heap.size w v6) := HBW.out.trans (r2.mono HBW.out.size); clear r2)
    go_ret
    exact ⟨rfl, by rw [← hb] at *; exact HB6.out⟩
  · have hmI : ¬ (A.length : Int) < s1.K.length := by omega
    obtain ⟨v4, w4, a5, c5, w5, r1, r2, b5, hS5⟩ := HAP.out _ HBW.out
    have HR41 := hid r1
    have HR42 := hid r2
    have HB5 := hid (jb hb HB3.out b5)
    have HP5 := hid (HP3.out.below b5)
    have HU5 := hid (HRU.out w5 (jw hb (jb hb HB3.out b5)) a5 c5 (A ++ B) hS5)
    have hlike : Alike A (A ++ B) s1.K.length := ⟨by omega, by rw [List.length_append]; omega, by rw [List.take_append_of_le_length (by omega)]⟩
    have hE2 := HAS.out (A ++ B) h1 j1 s1 rfl hlike
    rw [hE2] at HU5
    obtain ⟨AB, hAB⟩ : ∃ AB, AB = A ++ B := ⟨_, rfl⟩
    rw [← hAB] at HR42 HU5
    obtain ⟨N5, hN5⟩ : ∃ N, N = AB.length := ⟨_, rfl⟩
    rw [← hN5] at HR42 HU5
    clear r1 r2 b5 hS5 hE2 hlike hAB hN5
    go_upto_region 9 with (at_builtin; first | refine wpList_app_run rfl (.tmp 53) (.tmp 55) 22 rfl _ _ rfl rfl 22 rfl _ _ HR41.out ?_ | refine wpList_app_run rfl (.tmp 57) (.tmp 58) 22 rfl _ _ rfl rfl 22 rfl _ _ HR42.out ?_)
    clear a0 a1 a2 p0 p1 p11 p12
    obtain ⟨a0, a1, a2⟩ := HJ.out _ HB5.out
    go_upto_region 10 with (first
      | (go_at_call 9; refine HU5.out.mono ?_; rintro e v6 ⟨vc, rfl, h2, h3⟩; obtain ⟨o2, c2, rfl, hcc2, hg2⟩ := own_cells h2; have HB6 := hid h3; have HST2 := hid (res_stored v6 (h := hwP h1) (j := j1) HC1.out s1.M (.slice o2 s1.K.length c2)); clear h2 h3 hg2)
      | (refine wpList_store_mid rfl 33 (.tmp 10) (.tmp 68) rfl v6.heap.size 0 (resC (hwP h1) j1 s1.C s1.M (.slice o2 s1.K.length c2)).toArray rfl rfl (by exact HST2.out.2.2.1) (by rw [List.size_toArray, resC_len HC1.out]; exact infoR33) (by exact res_one _ _ _ _ _ _ _) ?_))
    have HB7 := hid (jb hb (jb hb HB5.out HB6.out) HST2.out.2.1)
    have HQ7 : Hid (Res ((v6.alloc Z33).setCells v6.heap.size 0 (resC (hwP h1) j1 s1.C s1.M (.slice o2 s1.K.length c2))) v6.heap.size (hwP h1) j1 s1.C s1.M o2 s1.K.length c2) := ⟨HST2.out.1, HC1.out⟩
    have HP7 := hid ((HP5.out.below HB6.out).below HST2.out.2.1)
    clear a0 a1 a2 HST2 HB6 HU5 HR41 HR42
    generalize (v6.alloc Z33).setCells v6.heap.size 0 (resC (hwP h1) j1 s1.C s1.M (.slice o2 s1.K.length c2)) = V7 at *
    generalize v6.heap.size = q at *
    obtain ⟨a0, a1, a2⟩ := HJ.out _ HB7.out
    obtain ⟨p0, p1, p11, p12, pr⟩ := HP7.out.cells
    have HS : Hid (SqA b p l m ao A.length cap o1 s1.K.length c1 V7.drew) := ⟨by simpa using a0, by simpa using a1, by simpa using a2, by simpa using p12⟩
    have hao : (ao = none ∧ s1.K = [] ∧ cap = 0) ∨ ∃ ad, ao = some ad := by
      cases ao with
      | none => left; obtain ⟨h1, h2⟩ := na rfl; exact ⟨rfl, List.eq_nil_of_length_eq_zero (by rw [h2] at hmore; simp at hmore; rw [hmore]; rfl), h1⟩
      | some ad => right; exact ⟨ad, rfl⟩
    have hkc : (s1.K.length : Int) ≤ cap := by omega
    have HW7 := hid (jw hb HB7.out)
    clear a0 a1 a2 p0 p1 p11 p12 pr
    refine wp_region_noPanic ?_
    refine wp_region_last (SqA b p l m ao A.length cap o1 s1.K.length c1) 17 (by kernel_rfl) ?_
    refine wpL_take 0 71 (.pointer (some ⟨b, 0, none⟩)) [] rfl rfl (by kernel_rfl) (by decide) (by kernel_rfl) (by kernel_rfl) (by kernel_rfl) (fun _ _ _ h => h) HS.out (by rfl) (fun W hW => by obtain ⟨z0, z1, z2, z3⟩ := hW; go_simp) ?_
    simp only [Act.put, List.setIfInBounds_toArray, List.set_cons_zero, List.set_cons_succ]
    refine wpL_take 1 72 (.string ⟨l.toArray⟩) [] rfl rfl (by kernel_rfl) (by decide) (by kernel_rfl) (by kernel_rfl) (by kernel_rfl) (fun _ _ _ h => h) HS.out (by rfl) (fun W hW => by obtain ⟨z0, z1, z2, z3⟩ := hW; go_simp) ?_
    simp only [Act.put, List.setIfInBounds_toArray, List.set_cons_zero, List.set_cons_succ]
    refine wpL_take 2 73 (.pointer (some ⟨b, 1, none⟩)) [] rfl rfl (by kernel_rfl) (by decide) (by kernel_rfl) (by kernel_rfl) (by kernel_rfl) (fun _ _ _ h => h) HS.out (by rfl) (fun W hW => by obtain ⟨z0, z1, z2, z3⟩ := hW; go_simp) ?_
    simp only [Act.put, List.setIfInBounds_toArray, List.set_cons_zero, List.set_cons_succ]
    refine wpL_take 3 74 (.string ⟨m.toArray⟩) [] rfl rfl (by kernel_rfl) (by decide) (by kernel_rfl) (by kernel_rfl) (by kernel_rfl) (fun _ _ _ h => h) HS.out (by rfl) (fun W hW => by obtain ⟨z0, z1, z2, z3⟩ := hW; go_simp) ?_
    simp only [Act.put, List.setIfInBounds_toArray, List.set_cons_zero, List.set_cons_succ]
    refine wpL_take 4 75 (.pointer (some ⟨b, 2, none⟩)) [] rfl rfl (by kernel_rfl) (by decide) (by kernel_rfl) (by kernel_rfl) (by kernel_rfl) (fun _ _ _ h => h) HS.out (by rfl) (fun W hW => by obtain ⟨z0, z1, z2, z3⟩ := hW; go_simp) ?_
    simp only [Act.put, List.setIfInBounds_toArray, List.set_cons_zero, List.set_cons_succ]
    refine wpL_take 5 76 (.slice ao A.length cap) [] rfl rfl (by kernel_rfl) (by decide) (by kernel_rfl) (by kernel_rfl) (by kernel_rfl) (fun _ _ _ h => h) HS.out (by rfl) (fun W hW => by obtain ⟨z0, z1, z2, z3⟩ := hW; go_simp) ?_
    simp only [Act.put, List.setIfInBounds_toArray, List.set_cons_zero, List.set_cons_succ]
    refine wpL_take 6 77 (.pointer (some ⟨p, 12, none⟩)) [] rfl rfl (by kernel_rfl) (by decide) (by kernel_rfl) (by kernel_rfl) (by kernel_rfl) (fun _ _ _ h => h) HS.out (by rfl) (fun W hW => by obtain ⟨z0, z1, z2, z3⟩ := hW; go_simp) ?_
    simp only [Act.put, List.setIfInBounds_toArray, List.set_cons_zero, List.set_cons_succ]
    refine wpL_take 7 78 (.slice o1 s1.K.length c1) [] rfl rfl (by kernel_rfl) (by decide) (by kernel_rfl) (by kernel_rfl) (by kernel_rfl) (fun _ _ _ h => h) HS.out (by rfl) (fun W hW => by obtain ⟨z0, z1, z2, z3⟩ := hW; go_simp) ?_
    simp only [Act.put, List.setIfInBounds_toArray, List.set_cons_zero, List.set_cons_succ]
    refine wpL_take 8 79 (i64 (s1.K.length : Nat)) [] rfl rfl (by kernel_rfl) (by decide) (by kernel_rfl) (by kernel_rfl) (by kernel_rfl) (fun _ _ _ h => h) HS.out (by rfl) (fun W hW => by obtain ⟨z0, z1, z2, z3⟩ := hW; go_simp) ?_
    simp only [Act.put, List.setIfInBounds_toArray, List.set_cons_zero, List.set_cons_succ]
    refine wpL_take 9 80 (.slice ao s1.K.length cap) [] rfl rfl (by kernel_rfl) (by decide) (by kernel_rfl) (by kernel_rfl) (by kernel_rfl) (fun _ _ _ h => h) HS.out (by rfl) (fun W hW => by rcases hao with ⟨rfl, hz1, hz2⟩ | ⟨ad, rfl⟩ <;> go_simp <;> (intro hne; exact absurd hz1 hne)) ?_
    simp only [Act.put, List.setIfInBounds_toArray, List.set_cons_zero, List.set_cons_succ]
    refine wpL_take 10 81 (i64 F) [] rfl rfl (by kernel_rfl) (by decide) (by kernel_rfl) (by kernel_rfl) (by kernel_rfl) (fun _ _ _ h => h) HS.out (by rfl) (fun W hW => by obtain ⟨z0, z1, z2, z3⟩ := hW; go_simp) ?_
    simp only [Act.put, List.setIfInBounds_toArray, List.set_cons_zero, List.set_cons_succ]
    have HT8 : Hid (∀ W, Below w.heap.size w W → Calls Tryd.prog 9 #[.string ⟨l.toArray⟩, .string ⟨m.toArray⟩, .slice ao s1.K.length cap, i64 F] W (RunPost W W.heap.size (h1, j1, { s1 with A := (A.take s1.K.length).drop s1.K.length }))) := fun W hW => by
      have hlt : (A.take s1.K.length).length = s1.K.length := by rw [List.length_take]; omega
      have h8 := HRU.out W hW ao cap (A.take s1.K.length) ((HAT.out W hW).cut (by omega))
      rw [hlt, HAS.out (A.take s1.K.length) h1 j1 s1 rfl ⟨by omega, by omega, by rw [List.take_take, Nat.min_self]⟩] at h8
      exact h8
    have hdr : Below V7.heap.size V7 V7.drew := ⟨rfl, rfl, rfl, Nat.le_refl _, fun _ _ => rfl⟩
    have HW7d := hid (HW7.out.trans (hdr.mono HW7.out.size))
    have HP7d := hid (HP7.out.below hdr)
    have HQ7d := hid (HQ7.out.below hdr)
    clear hdr HRU HAT HAS HAP HR HL HJ na nb hao
    refine wpL_two 11 15 rfl rfl (by kernel_rfl) (by rfl) (by rfl) (fun K hK => ?_) (fun K hK => ?_)
    · go_simp
      refine (HT8.out V7.drew HW7d.out).mono ?_
      rintro e v8 ⟨vc, rfl, h2, h3⟩
      obtain ⟨o3, c3, rfl, hcc3, hg3⟩ := own_cells h2
      have HS8 := hid (HS.out.below h3)
      have HST := hid (res_stored v8 (h := hwP h1) (j := j1) HC1.out s1.M (.slice o3 s1.K.length c3))
      have HB9 := hid ((HW7d.out.trans (h3.mono HW7d.out.size)).trans (HST.out.2.1.mono (by have := HW7d.out.size; have := h3.size; omega)))
      have HP9 := hid ((HP7d.out.below h3).below HST.out.2.1)
      have HQ9 := hid ((HQ7d.out.below h3).below HST.out.2.1)
      have HT9 : Hid (Res ((v8.alloc Z33).setCells v8.heap.size 0 (resC (hwP h1) j1 s1.C s1.M (.slice o3 s1.K.length c3))) v8.heap.size (hwP h1) j1 s1.C s1.M o3 s1.K.length c3) := ⟨HST.out.1, HC1.out⟩
      have HSA := hid (HS8.out.below (below_one v8 Z33))
      have HSB := hid (HS8.out.below HST.out.2.1)
      clear h2 h3 hg3 hcc3
      go_simp
      refine hK.out _ _ (fun _ => HS8.out) ?_
      clear hK K
      refine wpL_take 12 70 (.tuple #[.agg (resC (hwP h1) j1 s1.C s1.M (.slice o3 s1.K.length c3)).toArray, i64 0]) [] rfl rfl (by kernel_rfl) (by decide) (by kernel_rfl) (by kernel_rfl) (by kernel_rfl) (fun _ _ _ h => h) HS8.out (by rfl) (fun W hW => by go_simp) ?_
      simp only [Act.put, List.setIfInBounds_toArray, List.set_cons_zero, List.set_cons_succ]
      refine wpL_take 13 83 (.agg (resC (hwP h1) j1 s1.C s1.M (.slice o3 s1.K.length c3)).toArray) [] rfl rfl (by kernel_rfl) (by decide) (by kernel_rfl) (by kernel_rfl) (by kernel_rfl) (fun _ _ _ h => h) HS8.out (by rfl) (fun W hW => by go_simp) ?_
      simp only [Act.put, List.setIfInBounds_toArray, List.set_cons_zero, List.set_cons_succ]
      refine wpL_take 14 84 (i64 0) [] rfl rfl (by kernel_rfl) (by decide) (by kernel_rfl) (by kernel_rfl) (by kernel_rfl) (fun _ _ _ h => h) HS8.out (by rfl) (fun W hW => by go_simp) ?_
      simp only [Act.put, List.setIfInBounds_toArray, List.set_cons_zero, List.set_cons_succ]
      refine wpL_one 15 rfl (by kernel_rfl) (by rfl) (fun K hK => ?_)
      go_simp
      refine hK.out _ _ (fun _ => HSA.out) ?_
      clear hK K
      refine wpL_one 16 rfl (by kernel_rfl) (by rfl) (fun K hK => ?_)
      refine wp_store_mid 33 (.tmp 12) (.tmp 83) rfl v8.heap.size 0 (resC (hwP h1) j1 s1.C s1.M (.slice o3 s1.K.length c3)).toArray rfl rfl (by exact HST.out.2.2.1) (by rw [List.size_toArray, resC_len HC1.out]; exact infoR33) (by exact res_one _ _ _ _ _ _ _) ?_
      refine hK.out _ _ (fun _ => HSB.out) ?_
      clear hK K HSA HSB HST HS8
      refine wpL_one 17 rfl (by kernel_rfl) (by rfl) (fun K hK => ?_)
      go_simp
      refine hK.out _ _ (fun h => absurd rfl h) ?_
      clear hK K
      refine wpL_done (by kernel_rfl) ?_
      refine NoPanic.normal ?_
      generalize (v8.alloc Z33).setCells v8.heap.size 0 (resC (hwP h1) j1 s1.C s1.M (.slice o3 s1.K.length c3)) = V9 at *
      generalize v8.heap.size = q3 at *
      obtain ⟨p0, p1, p11, p12, pr⟩ := HP9.out.cells
      obtain ⟨q0, q1, q11, q12, qr⟩ := HQ9.out.cells
      obtain ⟨t0, t1, t11, t12, tr⟩ := HT9.out.cells
      have HPR := hid pr
      have HQR := hid qr
      have HTR := hid tr
      have heq : ∀ W, (binOp .eql 30 (cpV s1.C) (cpV s1.C)).run Tryd.prog W = .ok (.bool true) W := fun W => by have := eql25 HC1.out.len HC1.out.len W; rw [this, decide_eq_true rfl]
      clear pr qr tr
      go_wp2_with (first
        | (refine wpListG_load (by rfl) 30 (.tmp 92) rfl q 2 rfl (cpC s1.C) _ (by exact HQR.out) Tryd.underlying30 rfl (cpC_info HC1.out) ?_)
        | (refine wpListG_load (by rfl) 30 (.tmp 94) rfl p 2 rfl (cpC s1.C) _ (by exact HPR.out) Tryd.underlying30 rfl (cpC_info HC1.out) ?_)
        | (refine wpListG_load (by rfl) 30 (.tmp 113) rfl q3 2 rfl (cpC s1.C) _ (by exact HTR.out) Tryd.underlying30 rfl (cpC_info HC1.out) ?_)
        | (refine wpListG_load (by rfl) 30 (.tmp 115) rfl p 2 rfl (cpC s1.C) _ (by exact HPR.out) Tryd.underlying30 rfl (cpC_info HC1.out) ?_)
        | (go_at_call 8; refine (HC.out _ (HTB.out.below HB9.out)).mono ?_; rintro e v10 ⟨rfl, r2⟩; have HB10 : Hid (Below w.heap.size w v10) := HB9.out.trans (r2.mono HB9.out.size); clear r2))
      go_ret
      exact ⟨rfl, by rw [← hb] at *; exact HB10.out⟩
    · go_simp
      have hal := below_one V7.drew Z33
      have HSX := hid (HS.out.below hal)
      refine hK.out _ _ (fun _ => HSX.out) ?_
      clear hK K
      have HWX := hid (HW7d.out.trans (hal.mono HW7d.out.size))
      have HPX := hid (HP7d.out.below hal)
      have HQX := hid (HQ7d.out.below hal)
      have HZX : Hid ((V7.drew.alloc Z33).heap[V7.heap.size]? = some Z33) := heap_at rfl _
      clear hal
      refine wpL_one 11 rfl (by kernel_rfl) (by rfl) (fun K hK => ?_)
      go_simp
      refine (HT8.out (V7.drew.alloc Z33) HWX.out).mono ?_
      rintro e v8 ⟨vc, rfl, h2, h3⟩
      obtain ⟨o3, c3, rfl, hcc3, hg3⟩ := own_cells h2
      have HS8 := hid (HSX.out.below h3)
      have hz8 : v8.heap[V7.heap.size]? = some Z33 := (h3.block _ (Array.getElem?_eq_some_iff.1 HZX.out).1).trans HZX.out
      have HST := hid (there13 hz8 (h := hwP h1) (j := j1) HC1.out s1.M (.slice o3 s1.K.length c3))
      have hb8 : Below w.heap.size w v8 := HWX.out.trans (h3.mono HWX.out.size)
      have hqz : w.heap.size ≤ V7.heap.size := HW7.out.size
      have HB9 := hid (hb8.trans (HST.out.2.2 w.heap.size hqz hb8.size))
      have HP9 : Hid (Res (v8.setCells V7.heap.size 0 (resC (hwP h1) j1 s1.C s1.M (.slice o3 s1.K.length c3))) p (hwP h1) j1 s1.C s1.M o1 s1.K.length c1) := ⟨by rw [heap_sc_ne _ _ (by have := (Array.getElem?_eq_some_iff.1 HP7.out.row).1; omega)]; exact (HPX.out.below h3).row, HC1.out⟩
      have HQ9 : Hid (Res (v8.setCells V7.heap.size 0 (resC (hwP h1) j1 s1.C s1.M (.slice o3 s1.K.length c3))) q (hwP h1) j1 s1.C s1.M o2 s1.K.length c2) := ⟨by rw [heap_sc_ne _ _ (by have := (Array.getElem?_eq_some_iff.1 HQ7.out.row).1; omega)]; exact (HQX.out.below h3).row, HC1.out⟩
      have HT9 : Hid (Res (v8.setCells V7.heap.size 0 (resC (hwP h1) j1 s1.C s1.M (.slice o3 s1.K.length c3))) V7.heap.size (hwP h1) j1 s1.C s1.M o3 s1.K.length c3) := ⟨HST.out.1, HC1.out⟩
      have hbS := HST.out.2.2 V7.heap.size (Nat.le_refl _) (by have := (Array.getElem?_eq_some_iff.1 hz8).1; omega)
      have lt0 : ∀ (x : Addr) v, V7.drew.cell? x = some v → x.block < V7.heap.size := fun x v hx => World.block_lt_of_cell? V7.drew x hx
      have HSB : Hid (SqA b p l m ao A.length cap o1 s1.K.length c1 (v8.setCells V7.heap.size 0 (resC (hwP h1) j1 s1.C s1.M (.slice o3 s1.K.length c3)))) := ⟨(hbS.cell (lt0 _ _ HS.out.s0)).trans HS8.out.s0, (hbS.cell (lt0 _ _ HS.out.s1)).trans HS8.out.s1, (hbS.cell (lt0 _ _ HS.out.s2)).trans HS8.out.s2, (hbS.cell (lt0 _ _ HS.out.s3)).trans HS8.out.s3⟩
      clear h2 h3 hg3 hcc3 hz8 hb8 hqz hbS lt0
      go_simp
      refine hK.out _ _ (fun _ => HS8.out) ?_
      clear hK K
      refine wpL_take 12 70 (.tuple #[.agg (resC (hwP h1) j1 s1.C s1.M (.slice o3 s1.K.length c3)).toArray, i64 0]) [] rfl rfl (by kernel_rfl) (by decide) (by kernel_rfl) (by kernel_rfl) (by kernel_rfl) (fun _ _ _ h => h) HS8.out (by rfl) (fun W hW => by go_simp) ?_
      simp only [Act.put, List.setIfInBounds_toArray, List.set_cons_zero, List.set_cons_succ]
      refine wpL_take 13 83 (.agg (resC (hwP h1) j1 s1.C s1.M (.slice o3 s1.K.length c3)).toArray) [] rfl rfl (by kernel_rfl) (by decide) (by kernel_rfl) (by kernel_rfl) (by kernel_rfl) (fun _ _ _ h => h) HS8.out (by rfl) (fun W hW => by go_simp) ?_
      simp only [Act.put, List.setIfInBounds_toArray, List.set_cons_zero, List.set_cons_succ]
      refine wpL_take 14 84 (i64 0) [] rfl rfl (by kernel_rfl) (by decide) (by kernel_rfl) (by kernel_rfl) (by kernel_rfl) (fun _ _ _ h => h) HS8.out (by rfl) (fun W hW => by go_simp) ?_
      simp only [Act.put, List.setIfInBounds_toArray, List.set_cons_zero, List.set_cons_succ]
      refine wpL_one 16 rfl (by kernel_rfl) (by rfl) (fun K hK => ?_)
      refine wp_store_mid 33 (.tmp 12) (.tmp 83) rfl V7.heap.size 0 (resC (hwP h1) j1 s1.C s1.M (.slice o3 s1.K.length c3)).toArray rfl rfl (by exact HST.out.2.1) (by rw [List.size_toArray, resC_len HC1.out]; exact infoR33) (by exact res_one _ _ _ _ _ _ _) ?_
      refine hK.out _ _ (fun _ => HSB.out) ?_
      clear hK K HSB HST HS8 HZX HPX HQX HSX
      refine wpL_one 17 rfl (by kernel_rfl) (by rfl) (fun K hK => ?_)
      go_simp
      refine hK.out _ _ (fun h => absurd rfl h) ?_
      clear hK K
      refine wpL_done (by kernel_rfl) ?_
      refine NoPanic.normal ?_
      generalize v8.setCells V7.heap.size 0 (resC (hwP h1) j1 s1.C s1.M (.slice o3 s1.K.length c3)) = V9 at *
      generalize V7.heap.size = q3 at *
      obtain ⟨p0, p1, p11, p12, pr⟩ := HP9.out.cells
      obtain ⟨q0, q1, q11, q12, qr⟩ := HQ9.out.cells
      obtain ⟨t0, t1, t11, t12, tr⟩ := HT9.out.cells
      have HPR := hid pr
      have HQR := hid qr
      have HTR := hid tr
      have heq : ∀ W, (binOp .eql 30 (cpV s1.C) (cpV s1.C)).run Tryd.prog W = .ok (.bool true) W := fun W => by have := eql25 HC1.out.len HC1.out.len W; rw [this, decide_eq_true rfl]
      clear pr qr tr
      go_wp2_with (first
        | (refine wpListG_load (by rfl) 30 (.tmp 92) rfl q 2 rfl (cpC s1.C) _ (by exact HQR.out) Tryd.underlying30 rfl (cpC_info HC1.out) ?_)
        | (refine wpListG_load (by rfl) 30 (.tmp 94) rfl p 2 rfl (cpC s1.C) _ (by exact HPR.out) Tryd.underlying30 rfl (cpC_info HC1.out) ?_)
        | (refine wpListG_load (by rfl) 30 (.tmp 113) rfl q3 2 rfl (cpC s1.C) _ (by exact HTR.out) Tryd.underlying30 rfl (cpC_info HC1.out) ?_)
        | (refine wpListG_load (by rfl) 30 (.tmp 115) rfl p 2 rfl (cpC s1.C) _ (by exact HPR.out) Tryd.underlying30 rfl (cpC_info HC1.out) ?_)
        | (go_at_call 8; refine (HC.out _ (HTB.out.below HB9.out)).mono ?_; rintro e v10 ⟨rfl, r2⟩; have HB10 : Hid (Below w.heap.size w v10) := HB9.out.trans (r2.mono HB9.out.size); clear r2))
      go_ret
      exact ⟨rfl, by rw [← hb] at *; exact HB10.out⟩



set_option maxRecDepth 100000 in
theorem job_arg2 {H : Type} {enc : TypeId × Value → H} {W : World} {r : Reach} {b0 : Nat} {spare : Nat → Bool} {held : Bool} {v : Value} {d : DataW H} {ps : List MemPlace} (hv : Value.okWide Tryd.prog W r b0 24 v)
    (h : DataW.Trod enc Tryd.prog W 0 spare held 24 v d ps) : ∃ (l m : List UInt8) (ao : Option Addr) (cap : Nat) (A : List Int), v = jobV l m ao A.length cap ∧ ASl W W.heap.size W.heap.size (.slice ao A.length cap) A ∧ (ao = none → cap = 0 ∧ A = []) := by
  obtain ⟨⟨cs⟩, rfl, _⟩ := okWide_struct Tryd.underlying24 hv
  obtain ⟨fuel, hf⟩ := h
  have hf' : DataW.trod enc Tryd.prog W 0 spare held fuel 24 cs = some (d, ps) := hf
  obtain ⟨xs, n, _, hx, hl, hlen, hfl⟩ := DataW.trod_struct Tryd.underlying24 hf'
  obtain ⟨c0, c1, c2, rfl⟩ := list3 (hl.trans cellsOf24)
  obtain ⟨x0, x1, x2, rfl⟩ := list3 (show xs.length = 3 from hlen)
  have g0 : DataW.trod enc Tryd.prog W 0 spare held n 9 (([c0, c1, c2].drop 0).take (Tryd.prog.cellsOf 9)) = some x0 := hfl 0 _ rfl
  have g1 : DataW.trod enc Tryd.prog W 0 spare held n 9 (([c0, c1, c2].drop 1).take (Tryd.prog.cellsOf 9)) = some x1 := hfl 1 _ rfl
  have g2 : DataW.trod enc Tryd.prog W 0 spare held n 22 (([c0, c1, c2].drop 2).take (Tryd.prog.cellsOf 22)) = some x2 := hfl 2 _ rfl
  rw [cellsOf9] at g0 g1
  rw [cellsOf22] at g2
  change DataW.trod enc Tryd.prog W 0 spare held n 9 [c0] = _ at g0
  change DataW.trod enc Tryd.prog W 0 spare held n 9 [c1] = _ at g1
  change DataW.trod enc Tryd.prog W 0 spare held n 22 [c2] = _ at g2
  obtain ⟨t0, e0, _, _⟩ := DataW.trod_string Tryd.underlying9 g0
  obtain ⟨t1, e1, _, _⟩ := DataW.trod_string Tryd.underlying9 g1
  simp only [List.cons.injEq, and_true] at e0 e1
  subst e0 e1
  have hsl : ∃ a len cap, c2 = .slice a len cap ∧ len ≤ cap ∧ cap ≤ maxLen ∧ (a = none → cap = 0 ∧ len = 0) := by
    rcases Deep.open_slice Tryd.underlying22 g2 with ⟨hcs, _⟩ | ⟨x, len', cap', m, n', D, Pl, hcs, _, hl', hm, _⟩
    · simp only [List.cons.injEq, and_true] at hcs
      exact ⟨_, _, _, hcs, Nat.le_refl _, Nat.zero_le _, fun _ => ⟨rfl, rfl⟩⟩
    · simp only [List.cons.injEq, and_true] at hcs
      exact ⟨_, _, _, hcs, hl', hm, fun h => by cases h⟩
  obtain ⟨a, len, cap, rfl, h1, h2, h3⟩ := hsl
  obtain ⟨A, rfl, hA⟩ := ints_read (enc := enc) (d := x2.1) (ps := x2.2) h1 h2 ⟨n, g2⟩
  exact ⟨t0.data.toList, t1.data.toList, a, cap, A, by simp, hA, fun h => ⟨(h3 h).1, List.eq_nil_of_length_eq_zero (h3 h).2⟩⟩

set_option maxRecDepth 100000 in
theorem more_arg {H : Type} {enc : TypeId × Value → H} {W : World} {r : Reach} {b0 : Nat} {spare : Nat → Bool} {held : Bool} {v : Value} {d : DataW H} {ps : List MemPlace} (hv : Value.okWide Tryd.prog W r b0 22 v)
    (h : DataW.Trod enc Tryd.prog W 0 spare held 22 v d ps) : ∃ (bo : Option Addr) (kap : Nat) (B : List Int), v = .slice bo B.length kap ∧ ASl W W.heap.size W.heap.size (.slice bo B.length kap) B ∧ (bo = none → kap = 0 ∧ B = []) := by
  obtain ⟨a, len, cap, rfl⟩ := okWide_slice Tryd.underlying22 hv
  have hsl : len ≤ cap ∧ cap ≤ maxLen ∧ (a = none → cap = 0 ∧ len = 0) := by
    obtain ⟨fuel, hf⟩ := h
    rcases Deep.open_slice Tryd.underlying22 hf with ⟨hcs, _⟩ | ⟨x, len', cap', m, n', D, Pl, hcs, _, hl', hm, _⟩
    · simp [Value.cells] at hcs
      obtain ⟨rfl, rfl, rfl⟩ := hcs
      exact ⟨Nat.le_refl _, Nat.zero_le _, fun _ => ⟨rfl, rfl⟩⟩
    · simp [Value.cells] at hcs
      obtain ⟨rfl, rfl, rfl⟩ := hcs
      exact ⟨hl', hm, fun h => by cases h⟩
  obtain ⟨B, rfl, hB⟩ := ints_read hsl.1 hsl.2.1 h
  exact ⟨a, cap, B, rfl, hB, fun h => ⟨(hsl.2.2 h).1, List.eq_nil_of_length_eq_zero (hsl.2.2 h).2⟩⟩
theorem ask_any (w : World) (ht : Tab w) (l m : List UInt8) (ao bo : Option Addr) (cap kap : Nat) (A B : List Int) (ha : ASl w w.heap.size w.heap.size (.slice ao A.length cap) A) (hb : ASl w w.heap.size w.heap.size (.slice bo B.length kap) B) (na : ao = none → cap = 0 ∧ A = []) (nb : bo = none → kap = 0 ∧ B = []) (fuel : Int) :
    Calls Tryd.prog 6 #[jobV l m ao A.length cap, i64 fuel, .slice bo B.length kap] w fun e w' => e = .returned (.bool true) ∧ Below w.heap.size w w' := by
  by_cases ho : decide (600 < l.length ∨ 600 < m.length ∨ 100 < A.length) = true ∨ fuel < 0 ∨ 300 < fuel ∨ 100 < B.length
  · exact ask_out w ht l m ao bo A.length cap B.length kap fuel _ rfl ho
  · have hd : decide (600 < l.length ∨ 600 < m.length ∨ 100 < A.length) = false := by
      cases hb : decide (600 < l.length ∨ 600 < m.length ∨ 100 < A.length) with
      | true => exact absurd (Or.inl hb) ho
      | false => rfl
    have hf : ¬ (fuel < 0 ∨ 300 < fuel ∨ 100 < B.length) := fun h => ho (Or.inr h)
    by_cases h256 : 256 < l.length ∨ 256 < m.length
    · exact ask_long w ht l m ao bo A.length cap B.length kap fuel hd (by omega) (by omega) (by omega) h256
    · obtain ⟨F, rfl⟩ := Int.eq_ofNat_of_zero_le (show 0 ≤ fuel by omega)
      exact ask_in w ht l m ao bo cap kap A B F hd (by omega) (by omega) (by omega) (by omega) ha hb na nb
end Go.Proofs.YtigbfdloodfdgaaDoor
