/- BlocksBack: of any list the numbers of its runs are the list, and no two neighbouring runs could be one: the law answers true for every list, and changes nothing that was there. No condition. -/
import Derived.Test.YtdgofhhpgmpgjaaArgs
import Derived.Test.YtdgofhhpgmpgjaaSame
namespace Go.Proofs.Ytdgofhhpgmpgjaa
open Go.ChangeShapes Go.WideShapes Go.ChangeAt Go.RowKit Go.Deep

theorem allR_runF {xs : List Int} (h : allOk xs) : allR (runF xs) := fun r hr => by
  have := runF_right h r hr
  unfold rOk
  omega
theorem back_fl {xs : List Int} (h : allOk xs) (hl : xs.length ≤ 300) : flE (runF xs) = 0 ∧ flL (runF xs) = xs := by
  have h1 := allR_runF h
  have h2 : (flatF (runF xs)).length ≤ 1000 := by rw [flat_runF]; omega
  unfold flE flL
  rw [if_pos h1, if_pos h2, if_pos ⟨h1, h2⟩, flat_runF]
  exact ⟨rfl, rfl⟩
theorem wfR_runF {xs : List Int} (h : allOk xs) : ∀ r ∈ runF xs, wfR r := fun r hr => by
  have := runF_right h r hr
  unfold wfR
  omega

set_option maxRecDepth 100000 in
set_option maxHeartbeats 2000000 in
theorem back_walk (w : World) (ao : Option Addr) (cap : Nat) (xs : List Int) (hI : ISl w ao xs) (hmax : xs.length ≤ maxLen) :
    Calls Try.prog 5 #[.slice ao xs.length cap] w fun e w' => e = .returned (.bool true) ∧ Below w.heap.size w w' := by
  unfold maxLen at hmax
  by_cases hlen : xs.length ≤ 300
  · have HI : Hid (ISl w ao xs) := hI
    clear hI
    have hN : ∃ N, xs.length = N := ⟨_, rfl⟩
    obtain ⟨N, hN⟩ := hN
    have HN : Hid (xs.length = N) := hN
    rw [hN] at hlen hmax ⊢
    clear hN
    go_enter Try.func5, Try.ntmps5
    go_wp2_with fail
    have hr := runs_ok w ao cap xs HI.out (by rw [HN.out]; exact hlen)
    rw [HN.out] at hr
    refine hr.mono ?_
    rintro e w1 ⟨hb1, v1, he, ho1⟩
    have HB1 : Hid (Below w.heap.size w w1) := hb1
    obtain ⟨a1, c1, rfl, hge1⟩ := own_slice ho1
    have HR1 : Hid (RSl w1 a1 (runL xs)) := (own_runs ho1).1
    clear hr hb1 ho1
    by_cases hok : allOk xs
    · have e1 : runE xs = 0 := if_pos hok
      have e2 : runL xs = runF xs := if_pos hok
      rw [e1, e2] at he
      rw [e2] at HR1
      subst he
      have HOK : Hid (allOk xs) := hok
      clear hok e1 e2
      obtain ⟨f1, f2⟩ := back_fl HOK.out (by rw [HN.out]; exact hlen)
      have hn300 := runF_len xs
      rw [HN.out] at hn300
      have HF1 : Hid (flE (runF xs) = 0) := f1
      have HF2 : Hid (flL (runF xs) = xs) := f2
      have HW : Hid (∀ r ∈ runF xs, wfR r) := wfR_runF HOK.out
      have HRT : Hid (∀ r ∈ runF xs, 0 ≤ r.1 ∧ r.1 < 64 ∧ 1 ≤ r.2 ∧ r.1 + r.2 ≤ 64) := runF_right HOK.out
      have HAP : Hid (Apart2 (runF xs)) := runF_apart xs
      clear f1 f2
      generalize hrs : runF xs = rs at *
      clear hrs
      have hM : ∃ M, rs.length = M := ⟨_, rfl⟩
      obtain ⟨M, hM⟩ := hM
      have HM : Hid (rs.length = M) := hM
      rw [hM] at hn300 ⊢
      clear hM
      go_wp2_with fail
      have hf := flat_ok w1 a1 c1 rs HR1.out (by rw [HM.out]; omega) HW.out
      rw [HM.out] at hf
      refine hf.mono ?_
      rintro e w2 ⟨hb2, v2, he, ho2⟩
      rw [HF1.out] at he
      rw [HF2.out] at ho2
      subst he
      obtain ⟨a2, c2, rfl, hge2⟩ := own_slice ho2
      have HB2 : Hid (Below w.heap.size w w2) := HB1.out.trans (hb2.mono HB1.out.size)
      have HR2 : Hid (RSl w2 a1 rs) := HR1.out.below hb2
      have HI2 : Hid (ISl w2 a2 xs) := (own_ints ho2).1
      clear hf hb2 ho2
      go_wp2_with fail
      go_loopw [33] (fun i wr => ∃ k : Nat, k ≤ M ∧ i = i64 k ∧ Below w2.heap.size w2 wr) (fun i _ => M - (intOf i).toNat)
      case atStart => exact ⟨0, by omega, rfl, Below.refl _ _⟩
      case round =>
        obtain ⟨k, hk, rfl, hb⟩ := hrel
        by_cases hlt : k < M
        · have hkl : k < rs.length := by rw [HM.out]; exact hlt
          obtain ⟨b, off, rfl, hbl, c0, c1'⟩ := (HR2.out.below hb).at hkl
          have hrt := HRT.out _ (List.getElem_mem hkl)
          have hE : ∃ f l, rs[k] = (f, l) := ⟨_, _, rfl⟩
          obtain ⟨f, l, hE⟩ := hE
          rw [hE] at c0 c1' hrt
          simp only at hrt
          obtain ⟨r1, r2, r3, r4⟩ := hrt
          have HB : Hid (Below w2.heap.size w2 wr) := hb
          have hd1 : decide (l < 1) = false := decide_eq_false (by omega)
          by_cases hk0 : k = 0
          · have hd2 : decide ((0 : Int) < (k : Int)) = false := decide_eq_false (by omega)
            have hd4 : decide (0 < k) = false := decide_eq_false (by omega)
            clear hb hE hk0 hkl
            go_wp2_with fail
            go_quiet (fail)
            go_wp2_with fail
            exact ⟨⟨k + 1, by omega, by go_num, below_drewN (HB.out.alloc HB.out.size _) _⟩, by simp [intOf]; omega⟩
          · obtain ⟨k', rfl⟩ : ∃ k', k = k' + 1 := ⟨k - 1, by omega⟩
            have hkl' : k' < rs.length := by omega
            obtain ⟨b', off', hbo, _, d0, d1⟩ := (HR2.out.below hb).at hkl'
            cases hbo
            have hap := apart2_get rs k' hkl HAP.out
            have hrt' := HRT.out _ (List.getElem_mem hkl')
            have hE' : ∃ f l, rs[k'] = (f, l) := ⟨_, _, rfl⟩
            obtain ⟨f', l', hE'⟩ := hE'
            rw [hE', hE] at hap
            rw [hE'] at d0 d1 hrt'
            simp only at hrt' hap
            obtain ⟨q1, q2, q3, q4⟩ := hrt'
            have hne : (f' + l' == f) = false := by simpa using hap
            have hd2 : (0 : Int) < (k' : Int) + 1 := by omega
            have hd3 : decide ((0 : Int) < (k' : Int) + 1) = true := decide_eq_true hd2
            clear hb hE hE' hk0 hkl hkl' hap
            go_wp2_with fail
            go_quiet (fail)
            go_wp2_with fail
            exact ⟨⟨k' + 1 + 1, by omega, by go_num, below_drewN (HB.out.alloc HB.out.size _) _⟩, by simp [intOf]; omega⟩
        · have HB3 : Hid (Below w.heap.size w wr) := HB2.out.trans (hb.mono HB2.out.size)
          have HI3 : Hid (ISl wr a2 xs) := HI2.out.below hb
          have HA3 : Hid (ISl wr ao xs) := HI.out.below HB3.out
          clear hb
          have hi := ints_ok wr ao a2 cap c2 xs HA3.out HI3.out (by rw [HN.out]; omega)
          rw [HN.out] at hi ⊢
          go_wp2_with (first | (go_at_call 15; refine hi.mono ?_; rintro e w4 ⟨rfl, hb4⟩; have HB4 : Hid (Below w.heap.size w w4) := HB3.out.trans (hb4.mono HB3.out.size); clear hb4) | (go_at_call 9; refine (small_ok _).mono ?_; rintro e w5 ⟨rfl, hb5⟩; have HB5 : Hid (Below w.heap.size w w5) := HB4.out.trans (hb5.mono HB4.out.size); clear hb5))
          go_ret
          exact ⟨rfl, HB5.out⟩
    · have e1 : runE xs = 1 := if_neg hok
      have e2 : runL xs = [] := if_neg hok
      rw [e1, e2] at he
      subst he
      clear hok HR1 e1 e2
      go_wp2_with (go_at_call 9; refine (small_ok _).mono ?_; rintro e w5 ⟨rfl, hb5⟩; have HB5 : Hid (Below w.heap.size w w5) := HB1.out.trans (hb5.mono HB1.out.size); clear hb5)
      go_ret
      exact ⟨rfl, HB5.out⟩
  · generalize xs.length = N at *
    clear hI
    go_enter Try.func5, Try.ntmps5
    go_wp2_with (go_at_call 9; refine (small_ok _).mono ?_; rintro e w5 ⟨rfl, hb5⟩; have HB5 : Hid (Below w.heap.size w w5) := hb5; clear hb5)
    go_ret
    exact ⟨rfl, HB5.out⟩
set_option maxRecDepth 100000 in
theorem blocksBack_lifted (os : Os) (started : os.Started) (H : Type) (enc : TypeId × Value → H) :
    ReturnsInHanded {} Try.checked os 5 .any (Rows.blocksBackSpec.pre6 enc Try.prog Try.f5 Rows.blocksBackRow.domain false) (Rows.blocksBackSpec.post enc Try.prog Try.f5 false true false false) := by
  refine returnsInHanded_of_change (C := Try.checked) own started (by kernel_rfl) Try.func5
    (ChangeSpec.witness6 (enc := enc) (C := Try.checked) false ⟨#[], #[.slice none 0 0], []⟩ 8 (by kernel_rfl) (by kernel_rfl) (by kernel_rfl) (by kernel_rfl)) ?_
  intro W base args ds gs before hval0 hW hcnd _
  have hval : ∀ (j : Nat) t v, Try.f5.params[j]? = some t → args[j]? = some v → Value.okWide Try.prog W .any base t v := hval0
  have hW' := hW
  obtain ⟨p, q, hA0, hV, rfl, hfz, hnd⟩ := hW
  have hA : DataW.TrodAll enc Try.prog W 0 (fun _ => true) true Try.f5.params.toList args.toList ds p := hA0
  rw [Try.params5] at hA hval
  have hA1 := hA
  obtain ⟨v0, vs0, d0, ds0, p0, q0, hargs, rfl, rfl, h0, r0⟩ := trodAll_cons hA
  obtain ⟨rfl, rfl, rfl⟩ := trodAll_nil r0
  obtain rfl : args = #[v0] := by cases args; simp_all
  obtain ⟨rfl, rfl⟩ := trodVars_none hV
  obtain ⟨a0, len, cap, rfl⟩ := okWide_slice Try.underlying22 (hval 0 22 v0 rfl rfl)
  obtain ⟨hlen, xs, hx, hI⟩ := ints_read h0
  have walk0 := back_walk W a0 cap xs hI (by rw [hx]; exact hlen)
  rw [hx] at walk0
  refine (walk0).mono fun e W' ⟨he, bel⟩ => ?_
  subst he
  exact ⟨_, rfl, _, _, _, [], _, [], hW', trodAll_mk1 (shut_bool Try.underlying4 _), trodAll_stays laidOut bel _ _ _ _ (by kernel_rfl) hA1, rfl, bel.frame _, fun h => by cases h⟩

theorem blocksBack : Rows.BlocksBackSaid :=
  OpenClaim.holds_of_wide 5 Try.f5 rfl rfl rfl rfl rfl rfl rfl ⟨rfl, rfl, rfl, rfl, rfl⟩ rfl rfl rfl rfl rfl (by kernel_rfl) Try.func5 (by kernel_rfl)
    (of_decide_eq_true (by kernel_rfl)) (by unfold Func.isWrapper; first | (rw [if_pos (by decide +kernel)]; kernel_rfl) | (rw [if_neg (by decide +kernel)]; exact ⟨rfl, rfl⟩))
    (fun os started H enc _ => blocksBack_lifted os started H enc)
#print axioms blocksBack
end Go.Proofs.Ytdgofhhpgmpgjaa
