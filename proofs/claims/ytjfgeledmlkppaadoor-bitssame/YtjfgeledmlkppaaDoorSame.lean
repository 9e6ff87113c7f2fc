/- BitsSame: the word of a word's signed number is the word; turned by a number and back it is itself, of as many ones: the law answers true for every input, the table of ones lying as the program's text lays it (the card ties it); it changes nothing that was there. No other condition. -/
import Derived.Test.YtjfgeledmlkppaaDoorLaid
namespace Go.Proofs.YtjfgeledmlkppaaDoor
open Go.ChangeShapes Go.WideShapes Go.ChangeAt Go.RowKit

theorem sgn_word (x : Nat) (hx : x < 65536) : (sgn x % 65536).toNat = x := by unfold sgn; split <;> omega

set_option maxHeartbeats 800000 in
theorem same_walk (w : World) (x : Nat) (b : Int) (hx : x < 65536) (hb : (Lit.int .i64 b).wf = true) (ht : Tab w) :
    Calls Tryd.prog 8 #[.int .u16 x, .int .i64 b] w fun e w' => e = .returned (.bool true) ∧ Below w.heap.size w w' := by
  have hbd := bounds_i64 hb
  have hlt := turnN_lt (b % 16).toNat x hx
  have e1 := turn_back x b hx
  have e2 := pop_turn x hx (b % 16).toNat
  have e3 := sgn_word x hx
  have htm := tmod_two b 16 (by omega)
  have h16 : -16 ≤ b.tmod 16 ∧ b.tmod 16 ≤ 16 := by omega
  have E1 : Hid (turnN ((-(b.tmod 16)) % 16).toNat (turnN (b % 16).toNat x) = x) := e1
  have E2 : Hid (popN 16 (turnN (b % 16).toNat x) = popN 16 x) := e2
  have E3 : Hid ((sgn x % 65536).toNat = x) := e3
  have HT : Hid (Tab w) := ht
  clear ht hb e1 e2 e3 htm
  generalize hk : b.tmod 16 = k at *
  go_enter Tryd.func8, Tryd.ntmps8
  go_wp2_with fail
  refine (turn_ok w x b hx).mono ?_
  rintro e w1 ⟨rfl, m, rfl⟩
  generalize turnN (b % 16).toNat x = y at *
  go_wp2_with fail
  refine (signed_ok _ x hx).mono ?_
  rintro e w2 ⟨rfl, rfl⟩
  go_wp2_with fail
  refine (word_ok _ (sgn x)).mono ?_
  rintro e w3 ⟨he, rfl⟩
  rw [E3.out] at he
  subst he
  go_wp2_with fail
  refine (turn_ok _ y (-k) hlt).mono ?_
  rintro e w4 ⟨he, m2, rfl⟩
  rw [E1.out] at he
  subst he
  go_wp2_with fail
  refine (ones_ok _ y hlt (HT.out.drewN (m + m2))).mono ?_
  rintro e w5 ⟨he, rfl⟩
  rw [E2.out] at he
  subst he
  go_wp2_with fail
  refine (ones_ok _ x hx (HT.out.drewN (m + m2))).mono ?_
  rintro e w6 ⟨rfl, rfl⟩
  go_wp2_with fail
  refine (few_ok _ (HT.out.drewN (m + m2))).mono ?_
  rintro e w7 ⟨rfl, hb⟩
  have HF : Hid _ := hb
  clear hb
  go_wp2_with fail
  go_ret
  exact ⟨rfl, (below_drewN (Below.refl _ _) (m + m2)).trans HF.out⟩

set_option maxRecDepth 100000 in
theorem bitsSame_lifted (os : Os) (started : os.Started) (H : Type) (enc : TypeId × Value → H) :
    ReturnsInHanded {} Tryd.checked os 8 .any (fun w args => (Rows.bitsSameSpec.pre enc Tryd.prog Tryd.f8 [] false w args ∧ laidMetH Tryd.prog laidL w) ∧ sizedMet enc Tryd.prog Tryd.f8 (OpenSpec.ofChange Rows.bitsSameSpec) false w args)
      (Rows.bitsSameSpec.post enc Tryd.prog Tryd.f8 false true false false) := by
  refine returnsInHanded_of_change_and (C := Tryd.checked) (X := fun w _ => laidMetH Tryd.prog laidL w) (fun _ _ _ hh h => h.of_heap hh) own started (by kernel_rfl) Tryd.func8
    (ChangeSpec.witness_shaped (enc := enc) (C := Tryd.checked) (os := os) (X := fun w _ => laidMetH Tryd.prog laidL w) false (World.doorLaid Tryd.prog 400 os) #[.int .u16 0, .int .i64 0] 8 rfl (World.shaped_of_RefB (by kernel_rfl) (by kernel_rfl)) (by kernel_rfl) (by kernel_rfl) (by kernel_rfl) (door_met os _)) ?_
  intro W base args ds gs before hval0 hW _ _ hL _
  have hval : ∀ (j : Nat) t v, Tryd.f8.params[j]? = some t → args[j]? = some v → Value.okWide Tryd.prog W .any base t v := hval0
  have hW' := hW
  obtain ⟨p, q, hA0, hV, rfl, hfz, hnd⟩ := hW
  have hA : DataW.TrodAll enc Tryd.prog W 0 (fun _ => true) true Tryd.f8.params.toList args.toList ds p := hA0
  rw [Tryd.params8] at hA hval
  have hA1 := hA
  obtain ⟨v0, vs0, d0, ds0, p0, q0, hargs, rfl, rfl, h0, r0⟩ := trodAll_cons hA
  obtain ⟨v1, vs1, d1, ds1, p1, q1, rfl, rfl, rfl, h1, r1⟩ := trodAll_cons r0
  obtain ⟨rfl, rfl, rfl⟩ := trodAll_nil r1
  obtain rfl : args = #[v0, v1] := by cases args; simp_all
  obtain ⟨rfl, rfl⟩ := trodVars_none hV
  obtain ⟨n0, rfl, rfl, rfl, w0⟩ := open_int Tryd.underlying40 (hval 0 40 v0 rfl rfl) h0
  obtain ⟨x0, rfl, hx0⟩ := nat_u16 w0
  obtain ⟨n1, rfl, rfl, rfl, w1⟩ := open_int Tryd.underlying3 (hval 1 3 v1 rfl rfl) h1
  refine (same_walk W x0 n1 hx0 w1 (of_laid hL)).mono fun e W' ⟨he, bel⟩ => ?_
  subst he
  exact ⟨_, rfl, _, _, _, [], _, [], hW', trodAll_mk1 (shut_bool Tryd.underlying4 _), trodAll_stays laidOut bel _ _ _ _ (by kernel_rfl) hA1, rfl, bel.frame _, fun h => by cases h⟩

theorem bitsSame_row : Rows.BitsSameSaid :=
  OpenClaim.holds_of_wide 8 Tryd.f8 rfl rfl rfl rfl rfl rfl rfl ⟨rfl, rfl, rfl, rfl, rfl⟩ rfl rfl rfl rfl rfl (by kernel_rfl) Tryd.func8 (by kernel_rfl)
    (of_decide_eq_true (by kernel_rfl)) (by unfold Func.isWrapper; first | (rw [if_pos (by decide +kernel)]; kernel_rfl) | (rw [if_neg (by decide +kernel)]; exact ⟨rfl, rfl⟩))
    (fun os started H enc _ => bitsSame_lifted os started H enc)

theorem bitsSame : Rows.BitsSameCardSaid :=
  Claim7.holds_tied_plain_at .later [] [.data] true (true, "e34fd79e57bf2d90026491189e57a588add7de13ab1b3a4791f19dc7ea30de38") false
    bitsSame_row (fun _ h => by cases h) (by kernel_rfl) (fun _ h => by cases h) bitsSame_row_tie rfl ⟨rfl, rfl⟩ (by kernel_rfl) rfl
    (fun f fn hf hfn => by
      obtain rfl : f = 8 := Option.some.inj ((show Tryd.prog.funcNamed "imago/imagolaw01.BitsSame" = some 8 by kernel_rfl).symm.trans hf) |>.symm
      obtain rfl : fn = Tryd.f8 := (Option.some.inj (Tryd.func8.symm.trans hfn)).symm
      exact ⟨by kernel_rfl, fun j t ht => by
        rw [Tryd.params8] at ht
        have hm : t ∈ [40, 3] := by simpa using Array.mem_of_getElem? ht
        have hall : ([40, 3].all fun u => !Tryd.prog.wantsStandIn u) = true := by kernel_rfl
        exact (show Tryd.prog.wantsStandIn t = false by simpa using List.all_eq_true.1 hall t hm)⟩)
    (by kernel_rfl)
#print axioms bitsSame
end Go.Proofs.YtjfgeledmlkppaaDoor
