/- BitsFields: each field cut out, and put in, or why there is none, is as the document's: the law answers true for every input, the table of ones lying as the program's text lays it (the card ties it); it changes nothing that was there. No other condition. -/
import Derived.Test.YtjfgeledmlkppaaDoorPut
namespace Go.Proofs.YtjfgeledmlkppaaDoor
open Go.ChangeShapes Go.WideShapes Go.ChangeAt Go.RowKit

set_option maxRecDepth 100000 in
set_option maxHeartbeats 800000 in
theorem fields_walk (w : World) (n : Nat) (f d : Int) (v : Nat) (hn : n < 18446744073709551616) (hf : (Lit.int .i64 f).wf = true) (hd : (Lit.int .i64 d).wf = true) (hv : v < 4294967296) (ht : Tab w) :
    Calls Tryd.prog 3 #[.int .u64 n, .agg #[.int .i64 f, .int .i64 d], .int .u32 v] w fun e w' => e = .returned (.bool true) ∧ Below w.heap.size w w' := by
  have HT : Hid (Tab (w.alloc (.cells #[.int .i64 f, .int .i64 d] 23))) := ht.below ((Below.refl _ _).alloc (Nat.le_refl _) _)
  have HB : Hid (Below w.heap.size w (w.alloc (.cells #[.int .i64 f, .int .i64 d] 23))) := (Below.refl _ _).alloc (Nat.le_refl _) _
  have HF : Hid ((Lit.int .i64 f).wf = true) := hf
  have HD : Hid ((Lit.int .i64 d).wf = true) := hd
  clear ht hf hd
  go_enter Tryd.func3, Tryd.ntmps3
  go_wp2_with fail
  refine (cut_any _ n f d hn HF.out HD.out).mono ?_
  rintro e w1 ⟨rfl, m, rfl⟩
  generalize hcE : ctE f d = cE
  have HcE : Hid _ := hcE
  generalize hcV : ctV n f d = cV
  have HcV : Hid _ := hcV
  clear hcE hcV
  go_wp2_with fail
  refine (rcut_any _ n f d hn HF.out HD.out).mono ?_
  rintro e w2 ⟨he, rfl⟩
  rw [HcE.out, HcV.out] at he
  subst he
  go_wp2_with fail
  refine (put_any _ n f d v hn HF.out HD.out hv).mono ?_
  rintro e w3 ⟨rfl, m2, rfl⟩
  generalize hpE : ptE f d v = pE
  have HpE : Hid _ := hpE
  generalize hpV : ptV n f d v = pV
  have HpV : Hid _ := hpV
  clear hpE hpV
  go_wp2_with fail
  refine (rput_any _ n f d v hn HF.out HD.out hv).mono ?_
  rintro e w4 ⟨he, hb4⟩
  rw [HpE.out, HpV.out] at he
  subst he
  have HB4 : Hid _ := hb4
  clear hb4
  go_wp2_with fail
  refine (few_ok _ ((HT.out.drewN (m + m2)).below HB4.out)).mono ?_
  rintro e w5 ⟨rfl, hb5⟩
  have HB5 : Hid _ := hb5
  clear hb5
  go_wp2_with fail
  go_ret
  refine ⟨rfl, ?_⟩
  have s1 := HB.out.size
  have b1 := (below_drewN HB.out (m + m2)).trans (HB4.out.mono (show w.heap.size ≤ _ from s1))
  exact b1.trans (HB5.out.mono b1.size)

set_option maxRecDepth 100000 in
theorem bitsFields_lifted (os : Os) (started : os.Started) (H : Type) (enc : TypeId × Value → H) :
    ReturnsInHanded {} Tryd.checked os 3 .any (fun w args => (Rows.bitsFieldsSpec.pre enc Tryd.prog Tryd.f3 [] false w args ∧ laidMetH Tryd.prog laidL w) ∧ sizedMet enc Tryd.prog Tryd.f3 (OpenSpec.ofChange Rows.bitsFieldsSpec) false w args)
      (Rows.bitsFieldsSpec.post enc Tryd.prog Tryd.f3 false true false false) := by
  refine returnsInHanded_of_change_and (C := Tryd.checked) (X := fun w _ => laidMetH Tryd.prog laidL w) (fun _ _ _ hh h => h.of_heap hh) own started (by kernel_rfl) Tryd.func3
    (ChangeSpec.witness_shaped (enc := enc) (C := Tryd.checked) (os := os) (X := fun w _ => laidMetH Tryd.prog laidL w) false (World.doorLaid Tryd.prog 400 os) #[.int .u64 0, .agg #[.int .i64 0, .int .i64 0], .int .u32 0] 8 rfl (World.shaped_of_RefB (by kernel_rfl) (by kernel_rfl)) (by kernel_rfl) (by kernel_rfl) (by kernel_rfl) (door_met os _)) ?_
  intro W base args ds gs before hval0 hW _ _ hL _
  have hval : ∀ (j : Nat) t v, Tryd.f3.params[j]? = some t → args[j]? = some v → Value.okWide Tryd.prog W .any base t v := hval0
  have hW' := hW
  obtain ⟨p, q, hA0, hV, rfl, hfz, hnd⟩ := hW
  have hA : DataW.TrodAll enc Tryd.prog W 0 (fun _ => true) true Tryd.f3.params.toList args.toList ds p := hA0
  rw [Tryd.params3] at hA hval
  have hA1 := hA
  obtain ⟨v0, vs0, d0, ds0, p0, q0, hargs, rfl, rfl, h0, r0⟩ := trodAll_cons hA
  obtain ⟨v1, vs1, d1, ds1, p1, q1, rfl, rfl, rfl, h1, r1⟩ := trodAll_cons r0
  obtain ⟨v2, vs2, d2, ds2, p2, q2, rfl, rfl, rfl, h2, r2⟩ := trodAll_cons r1
  obtain ⟨rfl, rfl, rfl⟩ := trodAll_nil r2
  obtain rfl : args = #[v0, v1, v2] := by cases args; simp_all
  obtain ⟨rfl, rfl⟩ := trodVars_none hV
  obtain ⟨n0, rfl, rfl, rfl, w0⟩ := open_int Tryd.underlying22 (hval 0 22 v0 rfl rfl) h0
  obtain ⟨x0, rfl, hx0⟩ := nat_u64 w0
  obtain ⟨a1, b1, rfl, wa1, wb1⟩ := open_arr2 (hval 1 23 v1 rfl rfl) h1
  obtain ⟨n2, rfl, rfl, rfl, w2⟩ := open_int Tryd.underlying24 (hval 2 24 v2 rfl rfl) h2
  obtain ⟨x2, rfl, hx2⟩ := nat_u32 w2
  refine (fields_walk W x0 a1 b1 x2 hx0 wa1 wb1 hx2 (of_laid hL)).mono fun e W' ⟨he, bel⟩ => ?_
  subst he
  exact ⟨_, rfl, _, _, _, [], _, [], hW', trodAll_mk1 (shut_bool Tryd.underlying4 _), trodAll_stays laidOut bel _ _ _ _ (by kernel_rfl) hA1, rfl, bel.frame _, fun h => by cases h⟩

theorem bitsFields_row : Rows.BitsFieldsSaid :=
  OpenClaim.holds_of_wide 3 Tryd.f3 rfl rfl rfl rfl rfl rfl rfl ⟨rfl, rfl, rfl, rfl, rfl⟩ rfl rfl rfl rfl rfl (by kernel_rfl) Tryd.func3 (by kernel_rfl)
    (of_decide_eq_true (by kernel_rfl)) (by unfold Func.isWrapper; first | (rw [if_pos (by decide +kernel)]; kernel_rfl) | (rw [if_neg (by decide +kernel)]; exact ⟨rfl, rfl⟩))
    (fun os started H enc _ => bitsFields_lifted os started H enc)

theorem bitsFields : Rows.BitsFieldsCardSaid :=
  Claim7.holds_tied_plain_at .later [] [.data] true (true, "e34fd79e57bf2d90026491189e57a588add7de13ab1b3a4791f19dc7ea30de38") false
    bitsFields_row (fun _ h => by cases h) (by kernel_rfl) (fun _ h => by cases h) bitsFields_row_tie rfl ⟨rfl, rfl⟩ (by kernel_rfl) rfl
    (fun f fn hf hfn => by
      obtain rfl : f = 3 := Option.some.inj ((show Tryd.prog.funcNamed "imago/imagolaw01.BitsFields" = some 3 by kernel_rfl).symm.trans hf) |>.symm
      obtain rfl : fn = Tryd.f3 := (Option.some.inj (Tryd.func3.symm.trans hfn)).symm
      exact ⟨by kernel_rfl, fun j t ht => by
        rw [Tryd.params3] at ht
        have hm : t ∈ [22, 23, 24] := by simpa using Array.mem_of_getElem? ht
        have hall : ([22, 23, 24].all fun u => !Tryd.prog.wantsStandIn u) = true := by kernel_rfl
        exact (show Tryd.prog.wantsStandIn t = false by simpa using List.all_eq_true.1 hall t hm)⟩)
    (by kernel_rfl)
#print axioms bitsFields
end Go.Proofs.YtjfgeledmlkppaaDoor
