/- BitsSigns: each number with a sign, each word, and how many ones it has, are as the document's: the law answers true for every input, the table of ones lying as the program's text lays it (the card ties it); it changes nothing that was there. No other condition. -/
import Derived.Test.YtjfgeledmlkppaaDoorLaid
namespace Go.Proofs.YtjfgeledmlkppaaDoor
open Go.ChangeShapes Go.WideShapes Go.ChangeAt Go.RowKit

def sgnE (v : Nat) (d : Int) : Int := if 1 ≤ d ∧ d ≤ 32 then (if v < 2 ^ d.toNat then 0 else 2) else 1
def sgnV (v : Nat) (d : Int) : Int := if sgnE v d = 0 then (if 2 ^ (d.toNat - 1) ≤ v then (v : Int) - (2 ^ d.toNat : Nat) else v) else 0

theorem sgnE_ok (v d : Nat) (h1 : 1 ≤ d) (h2 : d ≤ 32) (h : v < 2 ^ d) : sgnE v d = 0 := by
  unfold sgnE; rw [if_pos (by omega), if_pos (by simpa using h)]
theorem sgnV_ok (v d : Nat) (h1 : 1 ≤ d) (h2 : d ≤ 32) (h : v < 2 ^ d) : sgnV v d = if 2 ^ (d - 1) ≤ v then (v : Int) - (2 ^ d : Nat) else v := by
  unfold sgnV; rw [if_pos (sgnE_ok v d h1 h2 h)]; rfl
/-- What bits.Sign reckons. -/
theorem sign_num (v d sp : Nat) (h1 : 1 ≤ d) (hsp : 32 - d = sp) (h2 : d ≤ 32) (h : v < 2 ^ d) : wrap32 ((v : Int) * 2 ^ sp % 4294967296) / 2 ^ sp = sgnV v d := by
  rw [sgnV_ok v d h1 h2 h]
  have hpq : 2 ^ (d - 1) * 2 ^ sp = 2147483648 := by rw [← Nat.pow_add, show d - 1 + sp = 31 by omega]
  have hd : 2 ^ d = 2 * 2 ^ (d - 1) := by rw [← Nat.pow_succ', show (d - 1).succ = d by omega]
  have hp : 0 < 2 ^ sp := Nat.two_pow_pos _
  have hcast : (v : Int) * 2 ^ sp = ((v * 2 ^ sp : Nat) : Int) := by rw [pow_cast, Int.natCast_mul]
  have hpc : ((2 : Int) ^ sp) = ((2 ^ sp : Nat) : Int) := pow_cast sp
  rw [hcast, hpc]
  clear hcast hpc
  rw [hd] at h
  rw [hd]
  generalize 2 ^ (d - 1) = Q at *
  generalize 2 ^ sp = P at *
  by_cases hq : Q ≤ v
  · rw [if_pos hq]
    obtain ⟨t, rfl⟩ : ∃ t, v = Q + t := ⟨v - Q, by omega⟩
    have htP : t * P + P ≤ 2147483648 := by
      rw [← Nat.succ_mul, ← hpq]; exact Nat.mul_le_mul_right _ (by omega)
    have e1 : (Q + t) * P = 2147483648 + t * P := by rw [Nat.add_mul, hpq]
    have e2 : wrap32 ((((Q + t) * P : Nat) : Int) % 4294967296) = ((t : Int) - (Q : Int)) * (P : Int) := by
      have e3 : ((t : Int) - (Q : Int)) * (P : Int) = ((t * P : Nat) : Int) - ((Q * P : Nat) : Int) := by rw [Int.sub_mul, Int.natCast_mul, Int.natCast_mul]
      rw [e3, e1, hpq]
      unfold wrap32
      generalize t * P = z at *
      omega
    rw [e2, Int.mul_ediv_cancel _ (by omega)]
    omega
  · rw [if_neg hq]
    have hvP : v * P + P ≤ 2147483648 := by
      rw [← Nat.succ_mul, ← hpq]; exact Nat.mul_le_mul_right _ (by omega)
    have e2 : wrap32 (((v * P : Nat) : Int) % 4294967296) = (v : Int) * (P : Int) := by
      rw [← Int.natCast_mul]
      unfold wrap32
      generalize v * P = z at *
      omega
    rw [e2, Int.mul_ediv_cancel _ (by omega)]

set_option maxHeartbeats 400000 in
theorem sign_arg (w : World) (v : Nat) (d : Int) (hd : d < 1 ∨ 32 < d) : Calls Tryd.prog 14 #[.int .u32 v, .int .i64 d] w fun e w' => e = .returned (.tuple #[.int .i32 0, .int .i64 1]) ∧ w' = w := by
  rcases hd with hd | hd
  · go_enter Tryd.func14, Tryd.ntmps14
    go_wp2
    go_ret2
    exact ⟨rfl, rfl⟩
  · have h0 : ¬ d < 1 := by omega
    go_enter Tryd.func14, Tryd.ntmps14
    go_wp2
    go_ret2
    exact ⟨rfl, rfl⟩
set_option maxHeartbeats 400000 in
theorem sign_long (w : World) (v d : Nat) (hv : v < 4294967296) (h1 : 1 ≤ d) (h2 : d ≤ 32) (h : decide (v < 2 ^ d) = false) : Calls Tryd.prog 14 #[.int .u32 v, .int .i64 d] w fun e w' => e = .returned (.tuple #[.int .i32 0, .int .i64 2]) ∧ w' = w := by
  go_enter Tryd.func14, Tryd.ntmps14
  go_wp2_with (go_at_call 33; refine (fits_ok _ v d hv h2).mono ?_; rintro e w1 ⟨rfl, rfl⟩)
  go_ret2
  exact ⟨rfl, rfl⟩
set_option maxHeartbeats 400000 in
theorem sign_ok (w : World) (v d : Nat) (hv : v < 4294967296) (h1 : 1 ≤ d) (h2 : d ≤ 32) (h : decide (v < 2 ^ d) = true) : Calls Tryd.prog 14 #[.int .u32 v, .int .i64 d] w fun e w' => e = .returned (.tuple #[.int .i32 (sgnV v d), .int .i64 0]) ∧ w' = w := by
  obtain ⟨sp, hsp⟩ : ∃ sp : Nat, 32 - d = sp := ⟨_, rfl⟩
  have hsp2 : (32 : Int) - (d : Int) = (sp : Int) := by omega
  have hsp3 : sp ≤ 31 := by omega
  have HSP : Hid _ := hsp
  clear hsp
  go_enter Tryd.func14, Tryd.ntmps14
  go_wp2_with (go_at_call 33; refine (fits_ok _ v d hv h2).mono ?_; rintro e w1 ⟨rfl, rfl⟩)
  go_ret2
  exact ⟨congrArg (fun n => Ending.returned (Value.tuple #[Value.int .i32 n, Value.int .i64 0])) (sign_num v d sp h1 HSP.out h2 (by simpa using h)), rfl⟩

theorem sign_any (w : World) (v : Nat) (d : Int) (hv : v < 4294967296) : Calls Tryd.prog 14 #[.int .u32 v, .int .i64 d] w fun e w' => e = .returned (.tuple #[.int .i32 (sgnV v d), .int .i64 (sgnE v d)]) ∧ w' = w := by
  by_cases hd : 1 ≤ d ∧ d ≤ 32
  · obtain ⟨k, rfl⟩ := Int.eq_ofNat_of_zero_le (show 0 ≤ d by omega)
    by_cases h : v < 2 ^ k
    · rw [sgnE_ok v k (by omega) (by omega) h]
      exact sign_ok w v k hv (by omega) (by omega) (by simpa using h)
    · have e : sgnE v k = 2 := by unfold sgnE; rw [if_pos hd, if_neg (by simpa using h)]
      have e2 : sgnV v k = 0 := by unfold sgnV; rw [e]; rfl
      rw [e, e2]
      exact sign_long w v k hv (by omega) (by omega) (by simpa using h)
  · have e : sgnE v d = 1 := by unfold sgnE; rw [if_neg hd]
    have e2 : sgnV v d = 0 := by unfold sgnV; rw [e]; rfl
    rw [e, e2]
    exact sign_arg w v d (by omega)

set_option maxHeartbeats 400000 in
theorem rsign_arg (w : World) (v : Nat) (d : Int) (hd : d < 1 ∨ 32 < d) : Calls Tryd.prog 15 #[.int .u32 v, .int .i64 d] w fun e w' => e = .returned (.tuple #[.int .i32 0, .int .i64 1]) ∧ w' = w := by
  rcases hd with hd | hd
  · go_enter Tryd.func15, Tryd.ntmps15
    go_wp2
    go_ret2
    exact ⟨rfl, rfl⟩
  · have h0 : ¬ d < 1 := by omega
    go_enter Tryd.func15, Tryd.ntmps15
    go_wp2
    go_ret2
    exact ⟨rfl, rfl⟩
set_option maxHeartbeats 400000 in
theorem rsign_ok (w : World) (v d : Nat) (hv : v < 4294967296) (h1 : 1 ≤ d) (h2 : d ≤ 32) : Calls Tryd.prog 15 #[.int .u32 v, .int .i64 d] w fun e w' => e = .returned (.tuple #[.int .i32 (sgnV v d), .int .i64 (sgnE v d)]) ∧ w' = w := by
  have hm : ((d : Int) - 1) = ((d - 1 : Nat) : Int) := by omega
  have HM : Hid _ := hm
  have hp1 : 2 ^ d ≤ 2 ^ 32 := Nat.pow_le_pow_right (by omega) h2
  have hd2 : 2 ^ d = 2 * 2 ^ (d - 1) := by rw [← Nat.pow_succ', show (d - 1).succ = d by omega]
  have HD2 : Hid _ := hd2
  have hval := sgnV_ok v d h1 h2
  have hE := sgnE_ok v d h1 h2
  have hlE : ¬ v < 2 ^ d → sgnE v d = 2 ∧ sgnV v d = 0 := fun h => by
    have e : sgnE v d = 2 := by unfold sgnE; rw [if_pos (by omega), if_neg (by simpa using h)]
    exact ⟨e, by unfold sgnV; rw [e]; rfl⟩
  have HV : Hid _ := hval
  have HE : Hid _ := hE
  have HL : Hid _ := hlE
  clear hval hE hlE hm hd2
  go_enter Tryd.func15, Tryd.ntmps15
  go_wp2_with fail
  refine (power_ok _ d (by omega)).mono ?_
  rintro e w1 ⟨rfl, rfl⟩
  have P1 : Hid (Calls Tryd.prog 32 #[.int .i64 d] w1 fun e w' => e = .returned (.int .u64 (2 ^ d : Nat)) ∧ w' = w1) := power_ok w1 d (by omega)
  have P2 : Hid (Calls Tryd.prog 32 #[.int .i64 (d - 1 : Nat)] w1 fun e w' => e = .returned (.int .u64 (2 ^ (d - 1) : Nat)) ∧ w' = w1) := power_ok w1 (d - 1) (by omega)
  generalize 2 ^ d = D at *
  generalize 2 ^ (d - 1) = Q at *
  have hQ : D = 2 * Q := HD2.out
  by_cases hlt : v < D
  · go_wp2_with fail
    rw [HM.out]
    refine P2.out.mono ?_
    rintro e w2 ⟨rfl, rfl⟩
    by_cases hq : Q ≤ v
    · go_wp2_with fail
      refine P1.out.mono ?_
      rintro e w3 ⟨rfl, rfl⟩
      go_wp2_with fail
      go_ret2
      refine ⟨?_, rfl⟩
      rw [HE.out hlt, HV.out hlt, if_pos hq]
      exact congrArg (fun n => Ending.returned (Value.tuple #[Value.int .i32 n, Value.int .i64 0])) (by omega)
    · go_wp2_with fail
      go_ret2
      refine ⟨?_, rfl⟩
      rw [HE.out hlt, HV.out hlt, if_neg hq]
      rfl
  · go_wp2_with fail
    go_ret2
    exact ⟨by rw [(HL.out hlt).1, (HL.out hlt).2]; rfl, rfl⟩

theorem rsign_any (w : World) (v : Nat) (d : Int) (hv : v < 4294967296) : Calls Tryd.prog 15 #[.int .u32 v, .int .i64 d] w fun e w' => e = .returned (.tuple #[.int .i32 (sgnV v d), .int .i64 (sgnE v d)]) ∧ w' = w := by
  by_cases hd : 1 ≤ d ∧ d ≤ 32
  · obtain ⟨k, rfl⟩ := Int.eq_ofNat_of_zero_le (show 0 ≤ d by omega)
    exact rsign_ok w v k hv (by omega) (by omega)
  · have e : sgnE v d = 1 := by unfold sgnE; rw [if_neg hd]
    have e2 : sgnV v d = 0 := by unfold sgnV; rw [e]; rfl
    rw [e, e2]
    exact rsign_arg w v d (by omega)

set_option maxRecDepth 100000 in
set_option maxHeartbeats 800000 in
theorem signs_walk (w : World) (v : Nat) (d n : Int) (hv : v < 4294967296) (hn : (Lit.int .i64 n).wf = true) (ht : Tab w) :
    Calls Tryd.prog 4 #[.int .u32 v, .int .i64 d, .int .i64 n] w fun e w' => e = .returned (.bool true) ∧ Below w.heap.size w w' := by
  have HT : Hid (Tab w) := ht
  have HN : Hid ((Lit.int .i64 n).wf = true) := hn
  have hlt : (n % 65536).toNat < 65536 := by omega
  clear ht hn
  go_enter Tryd.func4, Tryd.ntmps4
  go_wp2_with fail
  refine (sign_any w v d hv).mono ?_
  rintro e w1 ⟨rfl, rfl⟩
  generalize hE : sgnE v d = E
  have HE : Hid _ := hE
  generalize hV : sgnV v d = V
  have HV : Hid _ := hV
  clear hE hV
  go_wp2_with fail
  refine (rsign_any _ v d hv).mono ?_
  rintro e w2 ⟨he, rfl⟩
  rw [HE.out, HV.out] at he
  subst he
  go_wp2_with fail
  refine (word_ok _ n).mono ?_
  rintro e w3 ⟨rfl, rfl⟩
  generalize hX : (n % 65536).toNat = x at *
  have HX : Hid _ := hX
  clear hX
  go_wp2_with fail
  refine (rword_ok _ n HN.out).mono ?_
  rintro e w4 ⟨he, rfl⟩
  rw [HX.out] at he
  subst he
  go_wp2_with fail
  refine (signed_ok _ x hlt).mono ?_
  rintro e w5 ⟨rfl, rfl⟩
  go_wp2_with fail
  refine (rsigned_ok _ x hlt).mono ?_
  rintro e w6 ⟨rfl, rfl⟩
  go_wp2_with fail
  refine (ones_ok _ x hlt HT.out).mono ?_
  rintro e w7 ⟨rfl, rfl⟩
  go_wp2_with fail
  refine (rones_ok _ x hlt).mono ?_
  rintro e w8 ⟨rfl, rfl⟩
  go_wp2_with fail
  refine (few_ok _ HT.out).mono ?_
  rintro e w9 ⟨rfl, hb⟩
  have HF : Hid _ := hb
  clear hb
  go_wp2_with fail
  go_ret
  exact ⟨rfl, HF.out⟩

set_option maxRecDepth 100000 in
theorem bitsSigns_lifted (os : Os) (started : os.Started) (H : Type) (enc : TypeId × Value → H) :
    ReturnsInHanded {} Tryd.checked os 4 .any (fun w args => (Rows.bitsSignsSpec.pre enc Tryd.prog Tryd.f4 [] false w args ∧ laidMetH Tryd.prog laidL w) ∧ sizedMet enc Tryd.prog Tryd.f4 (OpenSpec.ofChange Rows.bitsSignsSpec) false w args)
      (Rows.bitsSignsSpec.post enc Tryd.prog Tryd.f4 false true false false) := by
  refine returnsInHanded_of_change_and (C := Tryd.checked) (X := fun w _ => laidMetH Tryd.prog laidL w) (fun _ _ _ hh h => h.of_heap hh) own started (by kernel_rfl) Tryd.func4
    (ChangeSpec.witness_shaped (enc := enc) (C := Tryd.checked) (os := os) (X := fun w _ => laidMetH Tryd.prog laidL w) false (World.doorLaid Tryd.prog 400 os) #[.int .u32 0, .int .i64 0, .int .i64 0] 8 rfl (World.shaped_of_RefB (by kernel_rfl) (by kernel_rfl)) (by kernel_rfl) (by kernel_rfl) (by kernel_rfl) (door_met os _)) ?_
  intro W base args ds gs before hval0 hW _ _ hL _
  have hval : ∀ (j : Nat) t v, Tryd.f4.params[j]? = some t → args[j]? = some v → Value.okWide Tryd.prog W .any base t v := hval0
  have hW' := hW
  obtain ⟨p, q, hA0, hV, rfl, hfz, hnd⟩ := hW
  have hA : DataW.TrodAll enc Tryd.prog W 0 (fun _ => true) true Tryd.f4.params.toList args.toList ds p := hA0
  rw [Tryd.params4] at hA hval
  have hA1 := hA
  obtain ⟨v0, vs0, d0, ds0, p0, q0, hargs, rfl, rfl, h0, r0⟩ := trodAll_cons hA
  obtain ⟨v1, vs1, d1, ds1, p1, q1, rfl, rfl, rfl, h1, r1⟩ := trodAll_cons r0
  obtain ⟨v2, vs2, d2, ds2, p2, q2, rfl, rfl, rfl, h2, r2⟩ := trodAll_cons r1
  obtain ⟨rfl, rfl, rfl⟩ := trodAll_nil r2
  obtain rfl : args = #[v0, v1, v2] := by cases args; simp_all
  obtain ⟨rfl, rfl⟩ := trodVars_none hV
  obtain ⟨n0, rfl, rfl, rfl, w0⟩ := open_int Tryd.underlying24 (hval 0 24 v0 rfl rfl) h0
  obtain ⟨x0, rfl, hx0⟩ := nat_u32 w0
  obtain ⟨n1, rfl, rfl, rfl, w1⟩ := open_int Tryd.underlying3 (hval 1 3 v1 rfl rfl) h1
  obtain ⟨n2, rfl, rfl, rfl, w2⟩ := open_int Tryd.underlying3 (hval 2 3 v2 rfl rfl) h2
  refine (signs_walk W x0 n1 n2 hx0 w2 (of_laid hL)).mono fun e W' ⟨he, bel⟩ => ?_
  subst he
  exact ⟨_, rfl, _, _, _, [], _, [], hW', trodAll_mk1 (shut_bool Tryd.underlying4 _), trodAll_stays laidOut bel _ _ _ _ (by kernel_rfl) hA1, rfl, bel.frame _, fun h => by cases h⟩

theorem bitsSigns_row : Rows.BitsSignsSaid :=
  OpenClaim.holds_of_wide 4 Tryd.f4 rfl rfl rfl rfl rfl rfl rfl ⟨rfl, rfl, rfl, rfl, rfl⟩ rfl rfl rfl rfl rfl (by kernel_rfl) Tryd.func4 (by kernel_rfl)
    (of_decide_eq_true (by kernel_rfl)) (by unfold Func.isWrapper; first | (rw [if_pos (by decide +kernel)]; kernel_rfl) | (rw [if_neg (by decide +kernel)]; exact ⟨rfl, rfl⟩))
    (fun os started H enc _ => bitsSigns_lifted os started H enc)

theorem bitsSigns : Rows.BitsSignsCardSaid :=
  Claim7.holds_tied_plain_at .later [] [.data] true (true, "e34fd79e57bf2d90026491189e57a588add7de13ab1b3a4791f19dc7ea30de38") false
    bitsSigns_row (fun _ h => by cases h) (by kernel_rfl) (fun _ h => by cases h) bitsSigns_row_tie rfl ⟨rfl, rfl⟩ (by kernel_rfl) rfl
    (fun f fn hf hfn => by
      obtain rfl : f = 4 := Option.some.inj ((show Tryd.prog.funcNamed "imago/imagolaw01.BitsSigns" = some 4 by kernel_rfl).symm.trans hf) |>.symm
      obtain rfl : fn = Tryd.f4 := (Option.some.inj (Tryd.func4.symm.trans hfn)).symm
      exact ⟨by kernel_rfl, fun j t ht => by
        rw [Tryd.params4] at ht
        have hm : t ∈ [24, 3, 3] := by simpa using Array.mem_of_getElem? ht
        have hall : ([24, 3, 3].all fun u => !Tryd.prog.wantsStandIn u) = true := by kernel_rfl
        exact (show Tryd.prog.wantsStandIn t = false by simpa using List.all_eq_true.1 hall t hm)⟩)
    (by kernel_rfl)
#print axioms bitsSigns
end Go.Proofs.YtjfgeledmlkppaaDoor
