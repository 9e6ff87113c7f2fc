/- BitsBack: what was put is cut, all other bits stay; what was written is read: the law answers true for every input, the table of ones lying as the program's text lays it (the card ties it); it changes nothing that was there. No other condition. -/
import Derived.Test.YtjfgeledmlkppaaDoorBytes
namespace Go.Proofs.YtjfgeledmlkppaaDoor
open Go.ChangeShapes Go.WideShapes Go.ChangeAt Go.RowKit

theorem ptV_zero (n : Nat) (f d : Int) (v : Nat) (h : ¬ ptE f d v = 0) : ptV n f d v = 0 := by
  unfold ptV
  rw [if_neg]
  rintro ⟨h1, h2⟩
  exact h (by unfold ptE; rw [if_pos h1, if_pos h2])
theorem ptE_ok {f d : Int} {v : Nat} (h : ptE f d v = 0) : isF f d = true ∧ v < 2 ^ d.toNat := by
  unfold ptE at h
  by_cases h1 : isF f d = true
  · rw [if_pos h1] at h
    by_cases h2 : v < 2 ^ d.toNat
    · exact ⟨h1, h2⟩
    · rw [if_neg h2] at h; omega
  · rw [if_neg h1] at h; omega

set_option maxRecDepth 100000 in
set_option maxHeartbeats 800000 in
theorem back_no (w : World) (n : Nat) (f d : Int) (v : Nat) (hn : n < 18446744073709551616) (hf : (Lit.int .i64 f).wf = true) (hd : (Lit.int .i64 d).wf = true) (hv : v < 4294967296) (ht : Tab w) (hz : ¬ ptE f d v = 0) :
    Calls Tryd.prog 7 #[.int .u64 n, .agg #[.int .i64 f, .int .i64 d], .int .u32 v] w fun e w' => e = .returned (.bool true) ∧ Below w.heap.size w w' := by
  have HT : Hid (Tab (w.alloc (.cells #[.int .i64 f, .int .i64 d] 23))) := ht.below ((Below.refl _ _).alloc (Nat.le_refl _) _)
  have HB : Hid (Below w.heap.size w (w.alloc (.cells #[.int .i64 f, .int .i64 d] 23))) := (Below.refl _ _).alloc (Nat.le_refl _) _
  have HF : Hid ((Lit.int .i64 f).wf = true) := hf
  have HD : Hid ((Lit.int .i64 d).wf = true) := hd
  have HZ : Hid (¬ ptE f d v = 0) := hz
  clear ht hf hd hz
  go_enter Tryd.func7, Tryd.ntmps7
  go_wp2_with fail
  refine (put_any _ n f d v hn HF.out HD.out hv).mono ?_
  rintro e w1 ⟨he, m, rfl⟩
  rw [ptV_zero n f d v HZ.out] at he
  have hne : (ptE f d v != 0) = true := by simpa using HZ.out
  generalize ptE f d v = E at *
  subst he
  go_wp2_with fail
  refine (few_ok _ (HT.out.drewN m)).mono ?_
  rintro e w5 ⟨rfl, hb5⟩
  have HB5 : Hid _ := hb5
  clear hb5
  go_wp2_with fail
  go_ret
  exact ⟨rfl, (below_drewN HB.out m).trans (HB5.out.mono HB.out.size)⟩

set_option maxRecDepth 100000 in
set_option maxHeartbeats 1600000 in
theorem back_ok (w : World) (n f d v : Nat) (hn : n < 18446744073709551616) (hf : f + d ≤ 64) (hd1 : 1 ≤ d) (hd : d ≤ 32) (hv : v < 4294967296) (hl : v < 2 ^ d) (ht : Tab w) :
    Calls Tryd.prog 7 #[.int .u64 n, .agg #[.int .i64 f, .int .i64 d], .int .u32 v] w fun e w' => e = .returned (.bool true) ∧ Below w.heap.size w w' := by
  have HT : Hid (Tab (w.alloc (.cells #[.int .i64 f, .int .i64 d] 23))) := ht.below ((Below.refl _ _).alloc (Nat.le_refl _) _)
  have HB : Hid (Below w.heap.size w (w.alloc (.cells #[.int .i64 f, .int .i64 d] 23))) := (Below.refl _ _).alloc (Nat.le_refl _) _
  have hRlt := putR_lt n f d v hn hf hl
  have hcut := put_cut n f d v hl
  have hbits : ∀ k, (k < f ∨ f + d ≤ k) → bitN (putR n f d v) k = bitN n k := fun k hk => by rw [putR_bitN n f d v k hl, if_neg (by omega)]
  have hb4 : decide (v < 2 ^ (8 * 4)) = true := by simpa using hv
  have hnm : nm (tb v 4) = v := by rw [nm_tb]; exact Nat.mod_eq_of_lt hv
  have htl : (tb v 4).length = 4 := tb_len v 4
  have HP : Hid (Calls Tryd.prog 11 #[.int .u64 n, .int .i64 f, .int .i64 d, .int .u32 v] (w.alloc (.cells #[.int .i64 f, .int .i64 d] 23)) fun e w' => e = .returned (.tuple #[.int .u64 (putR n f d v : Nat), .int .i64 0]) ∧ ∃ m, w' = (w.alloc (.cells #[.int .i64 f, .int .i64 d] 23)).drewN m) := put_ok _ n f d v hn hf hd1 hd hv (by simpa using hl)
  have HC : Hid (putR n f d v / 2 ^ f % 2 ^ d = v) := hcut
  have HBits : Hid (∀ k, (k < f ∨ f + d ≤ k) → bitN (putR n f d v) k = bitN n k) := hbits
  have HB4 : Hid (decide (v < 2 ^ (8 * 4)) = true) := hb4
  have HNm : Hid (nm (tb v 4) = v) := hnm
  have HTl : Hid ((tb v 4).length = 4) := htl
  clear ht hcut hbits hb4 hnm htl hl
  generalize putR n f d v = R at *
  go_enter Tryd.func7, Tryd.ntmps7
  go_wp2_with fail
  refine HP.out.mono ?_
  rintro e w1 ⟨rfl, m, rfl⟩
  go_wp2_with fail
  refine (cut_ok _ R f d hRlt hf hd1 hd).mono ?_
  rintro e w2 ⟨he, m2, rfl⟩
  rw [HC.out] at he
  subst he
  go_wp2_with fail
  go_loop [11] (fun i => ∃ k : Nat, k ≤ 64 ∧ i = .int .i64 k) (fun i => 64 - (intOf i).toNat)
  case atStart => exact ⟨0, by omega, rfl⟩
  case round =>
    obtain ⟨k, hk, rfl⟩ := hrel
    by_cases hk64 : k < 64
    · by_cases h1 : k < f
      · have hbk := HBits.out k (Or.inl h1)
        have HBK : Hid _ := hbk
        clear hbk
        go_wp2_with fail
        refine (bit_ok _ n k hn (by omega)).mono ?_
        rintro e w3 ⟨rfl, rfl⟩
        go_wp2_with fail
        refine (bit_ok _ R k hRlt (by omega)).mono ?_
        rintro e w4 ⟨he, rfl⟩
        rw [HBK.out] at he
        subst he
        generalize bitN n k = b at *
        go_wp2_with fail
        exact ⟨⟨k + 1, by omega, by go_num⟩, by simp [intOf]; omega⟩
      · by_cases h2 : f + d ≤ k
        · have hbk := HBits.out k (Or.inr h2)
          have HBK : Hid _ := hbk
          clear hbk
          go_wp2_with fail
          refine (bit_ok _ n k hn (by omega)).mono ?_
          rintro e w3 ⟨rfl, rfl⟩
          go_wp2_with fail
          refine (bit_ok _ R k hRlt (by omega)).mono ?_
          rintro e w4 ⟨he, rfl⟩
          rw [HBK.out] at he
          subst he
          generalize bitN n k = b at *
          go_wp2_with fail
          exact ⟨⟨k + 1, by omega, by go_num⟩, by simp [intOf]; omega⟩
        · go_wp2_with fail
          exact ⟨⟨k + 1, by omega, by go_num⟩, by simp [intOf]; omega⟩
    · go_wp2_with fail
      refine (bytes_ok _ v 4 (by omega) (by omega) hv HB4.out).mono ?_
      rintro e w3 ⟨rfl, hb3⟩
      have HB3 : Hid _ := hb3
      clear hb3
      generalize tb v 4 = t at *
      go_wp2_with fail
      refine (num_ok _ ⟨t.toArray⟩ (show 1 ≤ t.length by rw [HTl.out]; omega) (show t.length ≤ 4 by rw [HTl.out]; omega)).mono ?_
      rintro e w4 ⟨he, rfl⟩
      rw [show (⟨t.toArray⟩ : ByteArray).data.toList = t from rfl, HNm.out] at he
      subst he
      go_wp2_with fail
      refine (few_ok _ ((HT.out.drewN (m + m2)).below HB3.out)).mono ?_
      rintro e w5 ⟨rfl, hb5⟩
      have HB5 : Hid _ := hb5
      clear hb5
      go_wp2_with fail
      go_ret
      refine ⟨rfl, ?_⟩
      have s1 := HB.out.size
      have b1 := (below_drewN HB.out (m + m2)).trans (HB3.out.mono (show w.heap.size ≤ _ from s1))
      exact b1.trans (HB5.out.mono b1.size)

theorem back_walk (w : World) (n : Nat) (f d : Int) (v : Nat) (hn : n < 18446744073709551616) (hf : (Lit.int .i64 f).wf = true) (hd : (Lit.int .i64 d).wf = true) (hv : v < 4294967296) (ht : Tab w) :
    Calls Tryd.prog 7 #[.int .u64 n, .agg #[.int .i64 f, .int .i64 d], .int .u32 v] w fun e w' => e = .returned (.bool true) ∧ Below w.heap.size w w' := by
  by_cases hz : ptE f d v = 0
  · obtain ⟨h1, h2⟩ := ptE_ok hz
    obtain ⟨k, j, rfl, rfl, a1, a2, a3⟩ := isF_nat h1
    exact back_ok w n k j v hn a3 a1 a2 hv (by simpa using h2) ht
  · exact back_no w n f d v hn hf hd hv ht hz

set_option maxRecDepth 100000 in
theorem bitsBack_lifted (os : Os) (started : os.Started) (H : Type) (enc : TypeId × Value → H) :
    ReturnsInHanded {} Tryd.checked os 7 .any (fun w args => (Rows.bitsBackSpec.pre enc Tryd.prog Tryd.f7 [] false w args ∧ laidMetH Tryd.prog laidL w) ∧ sizedMet enc Tryd.prog Tryd.f7 (OpenSpec.ofChange Rows.bitsBackSpec) false w args)
      (Rows.bitsBackSpec.post enc Tryd.prog Tryd.f7 false true false false) := by
  refine returnsInHanded_of_change_and (C := Tryd.checked) (X := fun w _ => laidMetH Tryd.prog laidL w) (fun _ _ _ hh h => h.of_heap hh) own started (by kernel_rfl) Tryd.func7
    (ChangeSpec.witness_shaped (enc := enc) (C := Tryd.checked) (os := os) (X := fun w _ => laidMetH Tryd.prog laidL w) false (World.doorLaid Tryd.prog 400 os) #[.int .u64 0, .agg #[.int .i64 0, .int .i64 0], .int .u32 0] 8 rfl (World.shaped_of_RefB (by kernel_rfl) (by kernel_rfl)) (by kernel_rfl) (by kernel_rfl) (by kernel_rfl) (door_met os _)) ?_
  intro W base args ds gs before hval0 hW _ _ hL _
  have hval : ∀ (j : Nat) t v, Tryd.f7.params[j]? = some t → args[j]? = some v → Value.okWide Tryd.prog W .any base t v := hval0
  have hW' := hW
  obtain ⟨p, q, hA0, hV, rfl, hfz, hnd⟩ := hW
  have hA : DataW.TrodAll enc Tryd.prog W 0 (fun _ => true) true Tryd.f7.params.toList args.toList ds p := hA0
  rw [Tryd.params7] at hA hval
  have hA1 := hA
  obtain ⟨v0, vs0, d0, ds0, p0, q0, hargs, rfl, rfl, h0, r0⟩ := trodAll_cons hA
  obtain ⟨v1, vs1, d1, ds1, p1, q1, rfl, rfl, rfl, h1, r1⟩ := trodAll_cons r0
  obtain ⟨v2, vs2, d2, ds2, p2, q2, rfl, rfl, rfl, h2, r2⟩ := trodAll_cons r1
  obtain ⟨rfl, rfl, rfl⟩ := trodAll_nil r2
  obtain rfl : args = #[v0, v1, v2] := by cases args; simp_all
  obtain ⟨rfl, rfl⟩ := trodVars_none hV
  obtain ⟨n0, rfl, rfl, rfl, w0⟩ := open_int Tryd.underlying22 (hval 0 22 v0 rfl rfl) h0
  obtain ⟨x0, rfl, hx0⟩ := nat_u64 w0
  obtain ⟨a1, b1, rfl, wa1, wb1⟩ := open_arr2 (hval 1 23 v1 rfl rfl) h1
  obtain ⟨n2, rfl, rfl, rfl, w2⟩ := open_int Tryd.underlying24 (hval 2 24 v2 rfl rfl) h2
  obtain ⟨x2, rfl, hx2⟩ := nat_u32 w2
  refine (back_walk W x0 a1 b1 x2 hx0 wa1 wb1 hx2 (of_laid hL)).mono fun e W' ⟨he, bel⟩ => ?_
  subst he
  exact ⟨_, rfl, _, _, _, [], _, [], hW', trodAll_mk1 (shut_bool Tryd.underlying4 _), trodAll_stays laidOut bel _ _ _ _ (by kernel_rfl) hA1, rfl, bel.frame _, fun h => by cases h⟩

theorem bitsBack_row : Rows.BitsBackSaid :=
  OpenClaim.holds_of_wide 7 Tryd.f7 rfl rfl rfl rfl rfl rfl rfl ⟨rfl, rfl, rfl, rfl, rfl⟩ rfl rfl rfl rfl rfl (by kernel_rfl) Tryd.func7 (by kernel_rfl)
    (of_decide_eq_true (by kernel_rfl)) (by unfold Func.isWrapper; first | (rw [if_pos (by decide +kernel)]; kernel_rfl) | (rw [if_neg (by decide +kernel)]; exact ⟨rfl, rfl⟩))
    (fun os started H enc _ => bitsBack_lifted os started H enc)

theorem bitsBack : Rows.BitsBackCardSaid :=
  Claim7.holds_tied_plain_at .later [] [.data] true (true, "e34fd79e57bf2d90026491189e57a588add7de13ab1b3a4791f19dc7ea30de38") false
    bitsBack_row (fun _ h => by cases h) (by kernel_rfl) (fun _ h => by cases h) bitsBack_row_tie rfl ⟨rfl, rfl⟩ (by kernel_rfl) rfl
    (fun f fn hf hfn => by
      obtain rfl : f = 7 := Option.some.inj ((show Tryd.prog.funcNamed "imago/imagolaw01.BitsBack" = some 7 by kernel_rfl).symm.trans hf) |>.symm
      obtain rfl : fn = Tryd.f7 := (Option.some.inj (Tryd.func7.symm.trans hfn)).symm
      exact ⟨by kernel_rfl, fun j t ht => by
        rw [Tryd.params7] at ht
        have hm : t ∈ [22, 23, 24] := by simpa using Array.mem_of_getElem? ht
        have hall : ([22, 23, 24].all fun u => !Tryd.prog.wantsStandIn u) = true := by kernel_rfl
        exact (show Tryd.prog.wantsStandIn t = false by simpa using List.all_eq_true.1 hall t hm)⟩)
    (by kernel_rfl)
#print axioms bitsBack
end Go.Proofs.YtjfgeledmlkppaaDoor
