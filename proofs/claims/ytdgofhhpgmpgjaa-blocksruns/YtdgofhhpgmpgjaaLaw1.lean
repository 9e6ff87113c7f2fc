/- BlocksRuns: the runs of any list, and the numbers of any runs, are the document's: the law answers true for every list and all runs, and changes nothing that was there. No condition. -/
import Derived.Test.YtdgofhhpgmpgjaaArgs
import Derived.Test.YtdgofhhpgmpgjaaSame
import Derived.Test.YtdgofhhpgmpgjaaRefFlat
namespace Go.Proofs.Ytdgofhhpgmpgjaa
open Go.ChangeShapes Go.WideShapes Go.ChangeAt Go.RowKit Go.Deep

theorem new_two_at (w : World) (u v : Value) (t : TypeId) (b : Nat) (hb : b = w.heap.size) : ∀ j x, [u, v][j]? = some x → (w.alloc (.cells #[u, v] t)).cell? ((⟨b, 0, none⟩ : Addr).add j) = some x := by
  subst hb
  exact new_two w u v t
theorem runL_len (xs : List Int) : (runL xs).length ≤ xs.length := by
  unfold runL
  split
  · exact runF_len xs
  · simp
theorem flL_len (rs : List Rn) : (flL rs).length ≤ 1000 := by
  unfold flL
  split
  · rename_i h; exact h.2
  · simp
theorem take_runs {rs : List Rn} {k : Nat} (hk : k < rs.length) {f l : Int} (hE : rs[k] = (f, l)) {w : World} {base n : Nat} {v : Value} {e : TypeId} (h : w.ownsRow base e 2 v (n + 1) (rcells (rs.take k) ++ [i64 f, i64 l])) (hn : n = (rs.take k).length) : w.ownsRow base e 2 v (rs.take (k + 1)).length (rcells (rs.take (k + 1))) := by
  rw [← List.take_append_getElem hk, rcells_app, List.length_append, ← hn, hE]
  exact h

set_option maxRecDepth 100000 in
set_option maxHeartbeats 4000000 in
theorem runs_walk (w : World) (ao bo : Option Addr) (cap cap2 : Nat) (xs : List Int) (rs : List Rn) (hI : ISl w ao xs) (hR : RSl w bo rs) (hwf : ∀ r ∈ rs, wfR r) (hmax : xs.length ≤ maxLen) (hmax2 : rs.length ≤ maxLen) :
    Calls Try.prog 3 #[.slice ao xs.length cap, .slice bo rs.length cap2] w fun e w' => e = .returned (.bool true) ∧ Below w.heap.size w w' := by
  unfold maxLen at hmax hmax2
  have HI : Hid (ISl w ao xs) := hI
  have HR : Hid (RSl w bo rs) := hR
  have HW : Hid (∀ r ∈ rs, wfR r) := hwf
  clear hI hR hwf
  have hN : ∃ N, xs.length = N := ⟨_, rfl⟩
  obtain ⟨N, hN⟩ := hN
  have HN : Hid (xs.length = N) := hN
  have hM : ∃ M, rs.length = M := ⟨_, rfl⟩
  obtain ⟨M, hM⟩ := hM
  have HM : Hid (rs.length = M) := hM
  rw [hN] at hmax ⊢
  rw [hM] at hmax2 ⊢
  clear hN hM
  by_cases hlen : N ≤ 300
  · by_cases hlen2 : M ≤ 100
    · obtain ⟨i28, hi, hz, hs, hby⟩ := info_parts info28x
      have HI28 : Hid (Try.prog.info? 28 = some i28) := hi
      clear hi
      go_enter Try.func3, Try.ntmps3
      go_wp2_with fail
      go_loopw [5, 27] (fun u i wr => ∃ (k : Nat) (v : Value), v = u ∧ k ≤ M ∧ i = i64 k ∧ wr.ownsRow w.heap.size 28 2 v (rs.take k).length (rcells (rs.take k)) ∧ Below w.heap.size w wr) (fun _ i _ => M - (intOf i).toNat)
      case atStart => exact ⟨0, _, rfl, by omega, rfl, World.ownsRow_nil _ _ _ _, Below.refl _ _⟩
      case round =>
        obtain ⟨k, v, rfl, hk, rfl, ho, hb⟩ := hrel
        by_cases hlt : k < M
        · have hkl : k < rs.length := by rw [HM.out]; exact hlt
          obtain ⟨b, off, rfl, hbl, c0, c1⟩ := (HR.out.below hb).at hkl
          have hE : ∃ f l, rs[k] = (f, l) := ⟨_, _, rfl⟩
          obtain ⟨f, l, hE⟩ := hE
          rw [hE] at c0 c1
          have HE : Hid (rs[k] = (f, l)) := hE
          have hln : (rs.take k).length = k := by rw [List.length_take]; omega
          have HB : Hid (Below w.heap.size w wr) := hb
          have HO : Hid (wr.ownsRow w.heap.size 28 2 v (rs.take k).length (rcells (rs.take k))) := ho
          clear hb ho hE
          go_wp2_with (at_builtin; refine wpList_append_own _ rfl (.tmp 31) (.tmp 37) 25 rfl w.heap.size 28 i28 (.agg #[.int .i64 0, .int .i64 0]) 2 16 under25 HI28.out hz hs hby rfl (by omega) v _ _ rfl ((HO.out.alloc _).alloc _) ⟨wr.heap.size + 1, 0, none⟩ 1 1 [i64 f, i64 l] rfl rfl (new_two_at _ _ _ _ _ (by simp)) (by simp [Value.oneCell']) (by unfold maxLen; omega) (by omega) (by have := HB.out.size; simp; omega) ?_; intro v' w2 ho2 hg2 _; have HO2 : Hid (w2.ownsRow w.heap.size 28 2 v' (rs.take (k + 1)).length (rcells (rs.take (k + 1)))) := take_runs hkl HE.out ho2 rfl; have HB2 : Hid (Below w.heap.size w w2) := (HB.out.alloc HB.out.size _).trans (below_grown (HO.out.alloc _) (by have := HB.out.size; simp; omega) hg2); clear ho2 hg2)
          exact ⟨⟨k + 1, _, rfl, by omega, by go_num, HO2.out, HB2.out⟩, by simp [intOf]; omega⟩
        · obtain rfl : k = M := by omega
          have hT : rs.take k = rs := by rw [← HM.out]; simp
          rw [hT, HM.out] at ho
          obtain ⟨a5, c5, rfl, _⟩ := own_slice ho
          generalize wr = w0 at *
          have HB0 : Hid (Below w.heap.size w w0) := hb
          have HR0 : Hid (RSl w0 a5 rs) := (own_runs ho).1
          clear hb ho hT
          go_wp2_with fail
          have h1 := runs_ok w0 ao cap xs (HI.out.below HB0.out) (by rw [HN.out]; exact hlen)
          rw [HN.out] at h1
          refine h1.mono ?_
          rintro e w1 ⟨hb1, v1, rfl, ho1⟩
          obtain ⟨a1, c1, rfl, _⟩ := own_slice ho1
          have HB1 : Hid (Below w.heap.size w w1) := HB0.out.trans (hb1.mono HB0.out.size)
          have HR01 : Hid (RSl w1 a5 rs) := HR0.out.below hb1
          have HR1 : Hid (RSl w1 a1 (runL xs)) := (own_runs ho1).1
          clear h1 hb1 ho1
          have hrl := runL_len xs
          rw [HN.out] at hrl
          have hK : ∃ K, (runL xs).length = K := ⟨_, rfl⟩
          obtain ⟨K, hK⟩ := hK
          have HK : Hid ((runL xs).length = K) := hK
          rw [hK] at hrl ⊢
          clear hK
          go_wp2_with fail
          have h2 := rruns_ok w1 ao cap xs (HI.out.below HB1.out) (by rw [HN.out]; exact hlen)
          rw [HN.out] at h2
          refine h2.mono ?_
          rintro e w2 ⟨hb2, v2, rfl, ho2⟩
          rw [HK.out] at ho2
          obtain ⟨a2, c2, rfl, _⟩ := own_slice ho2
          have HB2 : Hid (Below w.heap.size w w2) := HB1.out.trans (hb2.mono HB1.out.size)
          have HR02 : Hid (RSl w2 a5 rs) := HR01.out.below hb2
          have HR12 : Hid (RSl w2 a1 (runL xs)) := HR1.out.below hb2
          have HR2 : Hid (RSl w2 a2 (runL xs)) := (own_runs ho2).1
          clear h2 hb2 ho2
          go_wp2_with fail
          have h3 := flat_ok w2 bo cap2 rs (HR.out.below HB2.out) (by rw [HM.out]; omega) HW.out
          rw [HM.out] at h3
          refine h3.mono ?_
          rintro e w3 ⟨hb3, v3, rfl, ho3⟩
          obtain ⟨a3, c3, rfl, _⟩ := own_slice ho3
          have HB3 : Hid (Below w.heap.size w w3) := HB2.out.trans (hb3.mono HB2.out.size)
          have HR03 : Hid (RSl w3 a5 rs) := HR02.out.below hb3
          have HR13 : Hid (RSl w3 a1 (runL xs)) := HR12.out.below hb3
          have HR23 : Hid (RSl w3 a2 (runL xs)) := HR2.out.below hb3
          have HI3 : Hid (ISl w3 a3 (flL rs)) := (own_ints ho3).1
          clear h3 hb3 ho3
          have hfl := flL_len rs
          have hJ : ∃ J, (flL rs).length = J := ⟨_, rfl⟩
          obtain ⟨J, hJ⟩ := hJ
          have HJ : Hid ((flL rs).length = J) := hJ
          rw [hJ] at hfl ⊢
          clear hJ
          go_wp2_with fail
          have h4 := rflat_ok w3 a5 c5 rs HR03.out (by rw [HM.out]; omega) HW.out
          rw [HM.out] at h4
          refine h4.mono ?_
          rintro e w4 ⟨hb4, v4, rfl, ho4⟩
          rw [HJ.out] at ho4
          obtain ⟨a4, c4, rfl, _⟩ := own_slice ho4
          have HB4 : Hid (Below w.heap.size w w4) := HB3.out.trans (hb4.mono HB3.out.size)
          have HR14 : Hid (RSl w4 a1 (runL xs)) := HR13.out.below hb4
          have HR24 : Hid (RSl w4 a2 (runL xs)) := HR23.out.below hb4
          have HI34 : Hid (ISl w4 a3 (flL rs)) := HI3.out.below hb4
          have HI4 : Hid (ISl w4 a4 (flL rs)) := (own_ints ho4).1
          clear h4 hb4 ho4
          have hsm := same_ok w4 a1 a2 c1 c2 (runL xs) HR14.out HR24.out (by rw [HK.out]; omega)
          rw [HK.out] at hsm
          go_wp2_with fail
          refine hsm.mono ?_
          rintro e w5 ⟨rfl, hb5⟩
          have HB5 : Hid (Below w.heap.size w w5) := HB4.out.trans (hb5.mono HB4.out.size)
          have hin := ints_ok w5 a3 a4 c3 c4 (flL rs) (HI34.out.below hb5) (HI4.out.below hb5) (by rw [HJ.out]; omega)
          rw [HJ.out] at hin
          clear hsm hb5
          go_wp2_with (first | (go_at_call 15; refine hin.mono ?_; rintro e w6 ⟨rfl, hb6⟩; have HB6 : Hid (Below w.heap.size w w6) := HB5.out.trans (hb6.mono HB5.out.size); clear hb6) | (go_at_call 9; refine (small_ok _).mono ?_; rintro e w7 ⟨rfl, hb7⟩; have HB7 : Hid (Below w.heap.size w w7) := HB6.out.trans (hb7.mono HB6.out.size); clear hb7))
          go_ret
          exact ⟨by simp, HB7.out⟩
    · go_enter Try.func3, Try.ntmps3
      go_wp2_with (go_at_call 9; refine (small_ok _).mono ?_; rintro e w5 ⟨rfl, hb5⟩; have HB5 : Hid (Below w.heap.size w w5) := hb5; clear hb5)
      go_ret
      exact ⟨rfl, HB5.out⟩
  · go_enter Try.func3, Try.ntmps3
    go_wp2_with (go_at_call 9; refine (small_ok _).mono ?_; rintro e w5 ⟨rfl, hb5⟩; have HB5 : Hid (Below w.heap.size w w5) := hb5; clear hb5)
    go_ret
    exact ⟨rfl, HB5.out⟩
set_option maxRecDepth 100000 in
theorem blocksRuns_lifted (os : Os) (started : os.Started) (H : Type) (enc : TypeId × Value → H) :
    ReturnsInHanded {} Try.checked os 3 .any (Rows.blocksRunsSpec.pre6 enc Try.prog Try.f3 Rows.blocksRunsRow.domain false) (Rows.blocksRunsSpec.post enc Try.prog Try.f3 false true false false) := by
  refine returnsInHanded_of_change (C := Try.checked) own started (by kernel_rfl) Try.func3
    (ChangeSpec.witness6 (enc := enc) (C := Try.checked) false ⟨#[], #[.slice none 0 0, .slice none 0 0], []⟩ 8 (by kernel_rfl) (by kernel_rfl) (by kernel_rfl) (by kernel_rfl)) ?_
  intro W base args ds gs before hval0 hW hcnd _
  have hval : ∀ (j : Nat) t v, Try.f3.params[j]? = some t → args[j]? = some v → Value.okWide Try.prog W .any base t v := hval0
  have hW' := hW
  obtain ⟨p, q, hA0, hV, rfl, hfz, hnd⟩ := hW
  have hA : DataW.TrodAll enc Try.prog W 0 (fun _ => true) true Try.f3.params.toList args.toList ds p := hA0
  rw [Try.params3] at hA hval
  have hA1 := hA
  obtain ⟨v0, vs0, d0, ds0, p0, q0, hargs, rfl, rfl, h0, r0⟩ := trodAll_cons hA
  obtain ⟨v1, vs1, d1, ds1, p1, q1, rfl, rfl, rfl, h1, r1⟩ := trodAll_cons r0
  obtain ⟨rfl, rfl, rfl⟩ := trodAll_nil r1
  obtain rfl : args = #[v0, v1] := by cases args; simp_all
  obtain ⟨rfl, rfl⟩ := trodVars_none hV
  obtain ⟨a0, len, cap, rfl⟩ := okWide_slice Try.underlying22 (hval 0 22 v0 rfl rfl)
  obtain ⟨a1, len1, cap1, rfl⟩ := okWide_slice Try.underlying23 (hval 1 23 v1 rfl rfl)
  obtain ⟨hlen, xs, hx, hI⟩ := ints_read h0
  obtain ⟨hlen1, rs, hr, hR, hwf⟩ := runs_read h1
  have walk0 := runs_walk W a0 a1 cap cap1 xs rs hI hR hwf (by rw [hx]; exact hlen) (by rw [hr]; exact hlen1)
  rw [hx, hr] at walk0
  refine (walk0).mono fun e W' ⟨he, bel⟩ => ?_
  subst he
  exact ⟨_, rfl, _, _, _, [], _, [], hW', trodAll_mk1 (shut_bool Try.underlying4 _), trodAll_stays laidOut bel _ _ _ _ (by kernel_rfl) hA1, rfl, bel.frame _, fun h => by cases h⟩

theorem blocksRuns : Rows.BlocksRunsSaid :=
  OpenClaim.holds_of_wide 3 Try.f3 rfl rfl rfl rfl rfl rfl rfl ⟨rfl, rfl, rfl, rfl, rfl⟩ rfl rfl rfl rfl rfl (by kernel_rfl) Try.func3 (by kernel_rfl)
    (of_decide_eq_true (by kernel_rfl)) (by unfold Func.isWrapper; first | (rw [if_pos (by decide +kernel)]; kernel_rfl) | (rw [if_neg (by decide +kernel)]; exact ⟨rfl, rfl⟩))
    (fun os started H enc _ => blocksRuns_lifted os started H enc)
#print axioms blocksRuns
end Go.Proofs.Ytdgofhhpgmpgjaa
