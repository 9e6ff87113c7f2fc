/- FramesBack: for any text and any two numbers, what was loaded is read (the text, and bytes 0 behind it), and copied it is there twice: the law answers true and changes nothing that was there. No condition. -/
import Derived.Test.YtjfgeledmlkppabArgs
namespace Go.Proofs.Ytjfgeledmlkppab
open Go.ChangeShapes Go.WideShapes Go.ChangeAt Go.RowKit

theorem fr_over (l v : List UInt8) (f : Nat) (hv : v.length = 16) (h : f * 16 + 16 ≤ l.length) : fr (over l (f * 16) v) f = v := by
  apply List.ext_getElem?
  intro j
  by_cases hj : j < 16
  · rw [fr_get _ _ _ hj, over_get _ _ _ (by omega), if_neg (by omega), if_pos (by omega)]
    congr 1; omega
  · rw [List.getElem?_eq_none (by simp [fr]; omega), List.getElem?_eq_none (by omega)]

set_option maxHeartbeats 800000 in
theorem back_long (s : ByteArray) (a b : Int) (w : World) (hs : 100 < s.size) :
    Calls Try.prog 5 #[.string s, .int .i64 a, .int .i64 b] w fun e w' => e = .returned (.bool true) ∧ Below w.heap.size w w' := by
  go_enter Try.func5, Try.ntmps5
  go_wp2_with fail
  refine (new_ok w 8 (by omega) (by omega)).mono ?_
  rintro e w1 ⟨rfl, hb1, _⟩
  have HB1 : Hid _ := hb1
  clear hb1
  go_wp2_with fail
  refine (seven_ok _).mono ?_
  rintro e w2 ⟨rfl, hb⟩
  have HB2 : Hid _ := hb
  clear hb
  go_wp2_with fail
  go_ret
  exact ⟨rfl, HB1.out.trans (HB2.out.mono HB1.out.size)⟩

set_option maxHeartbeats 800000 in
theorem back_none (s : ByteArray) (a b : Int) (w : World) (hs : s.size ≤ 100) (ha : a < 0 ∨ 7 < a) :
    Calls Try.prog 5 #[.string s, .int .i64 a, .int .i64 b] w fun e w' => e = .returned (.bool true) ∧ Below w.heap.size w w' := by
  have hi : inB a 8 = false := by simp [inB]; omega
  rcases ha with ha | ha
  · go_enter Try.func5, Try.ntmps5
    go_wp2_with fail
    refine (new_ok w 8 (by omega) (by omega)).mono ?_
    rintro e w1 ⟨rfl, hb1, hm1⟩
    have HB1 : Hid _ := hb1
    have HM1 : Hid _ := hm1
    clear hb1 hm1
    go_wp2_with fail
    refine (load_no w1 _ _ 8 a s HM1.out.ptr hi).mono ?_
    rintro e w2 ⟨rfl, rfl⟩
    go_wp2_with fail
    refine (seven_ok _).mono ?_
    rintro e w3 ⟨rfl, hb⟩
    have HB2 : Hid _ := hb
    clear hb
    go_wp2_with fail
    go_ret
    exact ⟨rfl, HB1.out.trans (HB2.out.mono HB1.out.size)⟩
  · have ha' : ¬ a < 0 := by omega
    go_enter Try.func5, Try.ntmps5
    go_wp2_with fail
    refine (new_ok w 8 (by omega) (by omega)).mono ?_
    rintro e w1 ⟨rfl, hb1, hm1⟩
    have HB1 : Hid _ := hb1
    have HM1 : Hid _ := hm1
    clear hb1 hm1
    go_wp2_with fail
    refine (load_no w1 _ _ 8 a s HM1.out.ptr hi).mono ?_
    rintro e w2 ⟨rfl, rfl⟩
    go_wp2_with fail
    refine (seven_ok _).mono ?_
    rintro e w3 ⟨rfl, hb⟩
    have HB2 : Hid _ := hb
    clear hb
    go_wp2_with fail
    go_ret
    exact ⟨rfl, HB1.out.trans (HB2.out.mono HB1.out.size)⟩

set_option maxHeartbeats 800000 in
theorem back_too (s : ByteArray) (a b : Int) (w : World) (hs : s.size ≤ 100) (hs2 : 16 < s.size) (ha : 0 ≤ a) (ha2 : a ≤ 7) :
    Calls Try.prog 5 #[.string s, .int .i64 a, .int .i64 b] w fun e w' => e = .returned (.bool true) ∧ Below w.heap.size w w' := by
  have hi : inB a 8 = true := by simp [inB]; omega
  go_enter Try.func5, Try.ntmps5
  go_wp2_with fail
  refine (new_ok w 8 (by omega) (by omega)).mono ?_
  rintro e w1 ⟨rfl, hb1, hm1⟩
  have HB1 : Hid _ := hb1
  have HM1 : Hid _ := hm1
  clear hb1 hm1
  go_wp2_with fail
  refine (load_long w1 _ _ 8 a s HM1.out.ptr hi hs2).mono ?_
  rintro e w2 ⟨rfl, rfl⟩
  go_wp2_with fail
  refine (seven_ok _).mono ?_
  rintro e w3 ⟨rfl, hb⟩
  have HB2 : Hid _ := hb
  clear hb
  go_wp2_with fail
  go_ret
  exact ⟨rfl, HB1.out.trans (HB2.out.mono HB1.out.size)⟩

set_option maxHeartbeats 800000 in
theorem back_walk (s : ByteArray) (a : Nat) (b : Int) (w : World) (hs : s.size ≤ 16) (ha : a ≤ 7) :
    Calls Try.prog 5 #[.string s, .int .i64 a, .int .i64 b] w fun e w' => e = .returned (.bool true) ∧ Below w.heap.size w w' := by
  have hi : inB a 8 = true := by simp [inB]; omega
  have hs100 : s.size ≤ 100 := by omega
  have e1 : ldE a s.size 8 = 0 := by unfold ldE; rw [if_pos hi, if_pos hs]
  have e2 : ldL (List.replicate (16 * 8) 0) a s.data.toList 8 = over (List.replicate (16 * 8) 0) (a * 16) (pad s.data.toList) := by unfold ldL; rw [if_pos ⟨hi, hs⟩]; rfl
  have e3 : pgE a 8 = 0 := by unfold pgE; rw [if_pos hi]
  have hpl := pad_len s.data.toList hs
  have e4 : pgS (over (List.replicate (16 * 8) 0) (a * 16) (pad s.data.toList)) a 8 = pad s.data.toList := by
    unfold pgS; rw [if_pos hi]; exact fr_over _ _ _ hpl (by simp; omega)
  have e5 : (pad s.data.toList).take s.size = s.data.toList := by
    unfold pad; exact List.take_left' rfl
  have e6 : ∀ i, s.size ≤ i → i < 16 → (pad s.data.toList)[i]? = some 0 := by
    intro i h1 h2
    have : s.data.toList.length = s.size := rfl
    unfold pad
    rw [List.getElem?_append_right (by omega), List.getElem?_replicate, if_pos (by omega)]
  have E1 : Hid _ := e1
  have E2 : Hid _ := e2
  have E3 : Hid _ := e3
  have E4 : Hid _ := e4
  have E5 : Hid _ := e5
  have E6 : Hid _ := e6
  have hq : (⟨(pad s.data.toList).toArray⟩ : ByteArray).extract 0 s.size = s := by
    apply ByteArray.ext
    rw [ByteArray.data_extract]
    apply Array.toList_inj.1
    simp only [Array.toList_extract, Nat.sub_zero, List.extract_eq_take_drop, List.drop_zero]
    exact e5
  clear e1 e2 e3 e4 e5 e6
  generalize pad s.data.toList = x at *
  go_enter Try.func5, Try.ntmps5
  go_wp2_with fail
  refine (new_ok w 8 (by omega) (by omega)).mono ?_
  rintro e w1 ⟨rfl, hb1, hm1⟩
  have HB1 : Hid _ := hb1
  have HM1 : Hid _ := hm1
  clear hb1 hm1
  go_wp2_with fail
  refine (load_mem HM1.out a s).mono ?_
  rintro e w2 ⟨he, ht2, hm2⟩
  rw [E1.out] at he
  subst he
  rw [E2.out] at hm2
  have HB2 : Hid _ := ht2
  have HM2 : Hid _ := hm2
  clear ht2 hm2
  go_wp2_with fail
  refine (page_mem HM2.out a).mono ?_
  rintro e w3 ⟨he, rfl⟩
  rw [E3.out, E4.out] at he
  subst he
  go_wp2_with fail
  go_loop [12] (fun i => ∃ k : Nat, s.size ≤ k ∧ k ≤ 16 ∧ i = .int .i64 k) (fun i => 16 - (intOf i).toNat)
  case atStart => exact ⟨s.size, Nat.le_refl _, hs, rfl⟩
  case round =>
    obtain ⟨k, hk1, hk2, rfl⟩ := hrel
    by_cases hlt : k < 16
    · have h0 : (⟨x.toArray⟩ : ByteArray)[k]'(by show k < x.length; omega) = 0 := by
        have := E6.out k hk1 hlt
        rw [List.getElem?_eq_getElem (by omega)] at this
        exact Option.some.inj this
      go_wp2_with fail
      exact ⟨⟨k + 1, by omega, by omega, by go_num⟩, by simp [intOf]; omega⟩
    · by_cases hb : b < 0
      · go_wp2_with fail
        refine (seven_ok _).mono ?_
        rintro e w4 ⟨rfl, hb⟩
        have HB3 : Hid _ := hb
        clear hb
        go_wp2_with fail
        go_ret
        exact ⟨rfl, (HB1.out.trans (HB2.out.below (Nat.le_refl _) HB1.out.size)).trans (HB3.out.mono (Nat.le_trans HB1.out.size HB2.out.size))⟩
      · by_cases hb7 : 7 < b
        · go_wp2_with fail
          refine (seven_ok _).mono ?_
          rintro e w4 ⟨rfl, hb⟩
          have HB3 : Hid _ := hb
          clear hb
          go_wp2_with fail
          go_ret
          exact ⟨rfl, (HB1.out.trans (HB2.out.below (Nat.le_refl _) HB1.out.size)).trans (HB3.out.mono (Nat.le_trans HB1.out.size HB2.out.size))⟩
        · have hib : inB b 8 = true := by simp [inB]; omega
          have f1 : cpE a b 8 = 0 := by unfold cpE; rw [if_pos ⟨hi, hib⟩]
          have f2 : pgE b 8 = 0 := by unfold pgE; rw [if_pos hib]
          have f3 : cpL (over (List.replicate (16 * 8) 0) (a * 16) x) a b 8 = over (over (List.replicate (16 * 8) 0) (a * 16) x) (b.toNat * 16) x := by
            unfold cpL; rw [if_pos ⟨hi, hib⟩]
            rw [show fr (over (List.replicate (16 * 8) 0) (a * 16) x) (a : Int).toNat = x from fr_over _ _ _ hpl (by simp; omega)]
          have f4 : pgS (over (over (List.replicate (16 * 8) 0) (a * 16) x) (b.toNat * 16) x) b 8 = x := by
            unfold pgS; rw [if_pos hib]
            exact fr_over _ _ _ hpl (by rw [over_len _ _ _ (by simp; omega)]; simp; omega)
          have F1 : Hid _ := f1
          have F2 : Hid _ := f2
          have F3 : Hid _ := f3
          have F4 : Hid _ := f4
          clear f1 f2 f3 f4
          go_wp2_with fail
          refine (copy_mem HM2.out a b).mono ?_
          rintro e w4 ⟨he, ht, hm⟩
          rw [F1.out] at he
          subst he
          rw [F3.out] at hm
          have HM4 : Hid _ := hm
          have HT4 : Hid _ := ht
          clear hm ht
          go_wp2_with fail
          refine (page_mem HM4.out b).mono ?_
          rintro e w5 ⟨he, rfl⟩
          rw [F2.out, F4.out] at he
          subst he
          go_wp2_with fail
          refine (seven_ok _).mono ?_
          rintro e w6 ⟨rfl, hb⟩
          have HB3 : Hid _ := hb
          clear hb
          go_wp2_with fail
          go_ret
          have s1 := HB1.out.size
          have s2 := HB2.out.size
          have s3 := HT4.out.size
          exact ⟨rfl, ((HB1.out.trans (HB2.out.below (Nat.le_refl _) s1)).trans (HT4.out.below (Nat.le_refl _) (by omega))).trans (HB3.out.mono (by omega))⟩

theorem back_any (s : ByteArray) (a b : Int) (w : World) :
    Calls Try.prog 5 #[.string s, .int .i64 a, .int .i64 b] w fun e w' => e = .returned (.bool true) ∧ Below w.heap.size w w' := by
  by_cases h1 : 100 < s.size
  · exact back_long s a b w h1
  · by_cases h2 : a < 0 ∨ 7 < a
    · exact back_none s a b w (by omega) h2
    · by_cases h3 : 16 < s.size
      · exact back_too s a b w (by omega) h3 (by omega) (by omega)
      · obtain ⟨k, rfl⟩ := Int.eq_ofNat_of_zero_le (show 0 ≤ a by omega)
        exact back_walk s k b w (by omega) (by omega)

set_option maxRecDepth 100000 in
theorem back_lifted (os : Os) (started : os.Started) (H : Type) (enc : TypeId × Value → H) :
    ReturnsInHanded {} Try.checked os 5 .any (Rows.framesBackSpec.pre6 enc Try.prog Try.f5 Rows.framesBackRow.domain false) (Rows.framesBackSpec.post enc Try.prog Try.f5 false true false false) := by
  refine returnsInHanded_of_change (C := Try.checked) own started (by kernel_rfl) Try.func5
    (ChangeSpec.witness6 (enc := enc) (C := Try.checked) false ⟨#[], #[.string ⟨#[]⟩, .int .i64 0, .int .i64 0], []⟩ 8 (by kernel_rfl) (by kernel_rfl) (by kernel_rfl) (by kernel_rfl)) ?_
  intro W base args ds gs before hval0 hW hcnd _
  have hval : ∀ (j : Nat) t v, Try.f5.params[j]? = some t → args[j]? = some v → Value.okWide Try.prog W .any base t v := hval0
  have hW' := hW
  obtain ⟨p, q, hA0, hV, rfl, hfz, hnd⟩ := hW
  have hA : DataW.TrodAll enc Try.prog W 0 (fun _ => true) true Try.f5.params.toList args.toList ds p := hA0
  rw [Try.params5] at hA hval
  have hA1 := hA
  obtain ⟨v0, vs0, d0, ds0, p0, q0, hargs, rfl, rfl, h0, r0⟩ := trodAll_cons hA
  obtain ⟨v1, vs1, d1, ds1, p1, q1, rfl, rfl, rfl, h1, r1⟩ := trodAll_cons r0
  obtain ⟨v2, vs2, d2, ds2, p2, q2, rfl, rfl, rfl, h2, r2⟩ := trodAll_cons r1
  obtain ⟨rfl, rfl, rfl⟩ := trodAll_nil r2
  obtain rfl : args = #[v0, v1, v2] := by cases args; simp_all
  obtain ⟨rfl, rfl⟩ := trodVars_none hV
  obtain ⟨s, rfl, rfl, rfl, _⟩ := ChangeMaps.open_string Try.underlying9 (hval 0 9 v0 rfl rfl) h0
  obtain ⟨a, rfl, rfl, rfl, _⟩ := open_int Try.underlying3 (hval 1 3 v1 rfl rfl) h1
  obtain ⟨b, rfl, rfl, rfl, _⟩ := open_int Try.underlying3 (hval 2 3 v2 rfl rfl) h2
  refine (back_any s a b W).mono fun e W' ⟨he, bel⟩ => ?_
  subst he
  exact ⟨_, rfl, _, _, _, [], _, [], hW', trodAll_mk1 (shut_bool Try.underlying4 _), trodAll_stays laidOut bel _ _ _ _ (by kernel_rfl) hA1, rfl, bel.frame _, fun h => by cases h⟩

theorem framesBack : Rows.FramesBackSaid :=
  OpenClaim.holds_of_wide 5 Try.f5 rfl rfl rfl rfl rfl rfl rfl ⟨rfl, rfl, rfl, rfl, rfl⟩ rfl rfl rfl rfl rfl (by kernel_rfl) Try.func5 (by kernel_rfl)
    (of_decide_eq_true (by kernel_rfl)) (by unfold Func.isWrapper; first | (rw [if_pos (by decide +kernel)]; kernel_rfl) | (rw [if_neg (by decide +kernel)]; exact ⟨rfl, rfl⟩))
    (fun os started H enc _ => back_lifted os started H enc)
#print axioms framesBack
end Go.Proofs.Ytjfgeledmlkppab
