/- BlocksSteps: every disk, write by write, is as the document's, and so is what is gathered of it: the law answers true for any number, any writes and any list, and changes nothing that was there. No condition. -/
import Derived.Test.YtdgofhhpgmpgjaaRGather
namespace Go.Proofs.Ytdgofhhpgmpgjaa
open Go.ChangeShapes Go.WideShapes Go.ChangeAt Go.RowKit Go.Deep

set_option maxRecDepth 100000 in
set_option maxHeartbeats 800000 in
theorem steps_none (w : World) (n : Int) (sv av : Value) (h : n < 1 ∨ 64 < n) :
    Calls Try.prog 4 #[i64 n, sv, av] w fun e w' => e = .returned (.bool true) ∧ Below w.heap.size w w' := by
  have h' := h
  rcases h' with h1 | h1
  · go_enter Try.func4, Try.ntmps4
    go_wp2_with fail
    refine (new_no w n h).mono ?_
    rintro e w1 ⟨rfl, rfl⟩
    go_wp2_with (go_at_call 9; refine (small_ok _).mono ?_; rintro e w5 ⟨rfl, hb5⟩; have HB5 : Hid (Below _ _ w5) := hb5; clear hb5)
    go_ret
    exact ⟨rfl, HB5.out⟩
  · have h2 : ¬ n < 1 := by omega
    go_enter Try.func4, Try.ntmps4
    go_wp2_with fail
    refine (new_no w n h).mono ?_
    rintro e w1 ⟨rfl, rfl⟩
    go_wp2_with (go_at_call 9; refine (small_ok _).mono ?_; rintro e w5 ⟨rfl, hb5⟩; have HB5 : Hid (Below _ _ w5) := hb5; clear hb5)
    go_ret
    exact ⟨rfl, HB5.out⟩

set_option maxRecDepth 100000 in
set_option maxHeartbeats 4000000 in
theorem steps_walk (w : World) (n : Nat) (ao bo : Option Addr) (len cap cap2 : Nat) (f : Nat → Wr) (xs : List Int) (h1 : 1 ≤ n) (h2 : n ≤ 64) (hst : WSl w ao len f) (hlen : len ≤ maxLen) (hI : ISl w bo xs) (hmax : xs.length ≤ maxLen) :
    Calls Try.prog 4 #[i64 n, .slice ao len cap, .slice bo xs.length cap2] w fun e w' => e = .returned (.bool true) ∧ Below w.heap.size w w' := by
  have HLen : Hid (len ≤ maxLen) := hlen
  unfold maxLen at hlen hmax
  have HS : Hid (WSl w ao len f) := hst
  have HI : Hid (ISl w bo xs) := hI
  clear hst hI
  have hN : ∃ N, xs.length = N := ⟨_, rfl⟩
  obtain ⟨N, hN⟩ := hN
  have HN : Hid (xs.length = N) := hN
  rw [hN] at hmax ⊢
  clear hN
  go_enter Try.func4, Try.ntmps4
  go_wp2_with fail
  refine (new_ok w n h1 h2).mono ?_
  rintro e w1 ⟨rfl, hb1, hd1⟩
  have HB1 : Hid (Below w.heap.size w w1) := hb1
  have HD1 : Hid (Dsk w1 (w.heap.size + 1) w.heap.size n 0 (fun _ => zer8)) := hd1
  clear hb1 hd1
  go_wp2_with fail
  refine (long_any w1 ao len cap f (HS.out.below HB1.out) HLen.out).mono ?_
  rintro e w2 ⟨he, hb2⟩
  have HB2 : Hid (Below w.heap.size w w2) := HB1.out.trans (hb2.mono HB1.out.size)
  have HD2 : Hid (Dsk w2 (w.heap.size + 1) w.heap.size n 0 (fun _ => zer8)) := HD1.out.below hb2 HD1.out.plt HD1.out.qlt
  clear hb2
  rcases he with rfl | ⟨rfl, hl61, hss⟩
  · go_wp2_with (go_at_call 9; refine (small_ok _).mono ?_; rintro e w5 ⟨rfl, hb5⟩; have HB5 : Hid (Below w.heap.size w w5) := HB2.out.trans (hb5.mono HB2.out.size); clear hb5)
    go_ret
    exact ⟨rfl, HB5.out⟩
  · clear hss
    by_cases h40 : N ≤ 40
    · go_wp2_with fail
      refine (rnew_ok w2 n h1 h2).mono ?_
      rintro e w3 ⟨rfl, hb3, r, cp, hr, hrd⟩
      have hp2 := HD2.out.plt
      have hq2 := HD2.out.qlt
      have HD3 : Hid (Dsk w3 (w.heap.size + 1) w.heap.size n 0 (fun _ => zer8)) := HD2.out.below hb3 hp2 hq2
      have HR3 : Hid (RDsk w3 w2.heap.size r n cp 0 (fun _ => zer8)) := hrd
      have HB3 : Hid (Below w.heap.size w w3) := HB2.out.trans (hb3.mono HB2.out.size)
      have hrp := hrd.rlt
      clear hb3 hrd
      go_wp2_with fail
      go_loopw [70] (fun i wr => ∃ (k m : Nat) (blk : Nat → List UInt8), k ≤ len ∧ m ≤ k ∧ i = i64 k ∧ Below w.heap.size w wr ∧ Dsk wr (w.heap.size + 1) w.heap.size n m blk ∧ RDsk wr w2.heap.size r n cp m blk) (fun i _ => len - (intOf i).toNat)
      case atStart => exact ⟨0, 0, _, by omega, by omega, rfl, HB3.out, HD3.out, HR3.out⟩
      case round =>
        obtain ⟨k, m, blk, hk, hmk, rfl, hb, hd, hrd⟩ := hrel
        by_cases hlt : k < len
        · obtain ⟨b, off, rfl, hbl, c0, c1⟩ := (HS.out.below hb).at hlt
          have hE : ∃ a s, (f k).at_ = a ∧ (f k).s = s := ⟨_, _, rfl, rfl⟩
          obtain ⟨a, s, hE1, hE2⟩ := hE
          rw [hE1] at c0
          rw [hE2] at c1
          clear hE1 hE2
          have HB : Hid (Below w.heap.size w wr) := hb
          have hdp := hd.plt
          have hrp2 := hrd.plt
          have hrr2 := hrd.rlt
          have hba : ∀ o, Below wr.heap.size wr (wr.alloc o) := fun o => (Below.refl _ _).alloc (Nat.le_refl _) o
          have HD : Hid (∀ o, Dsk (wr.alloc o) (w.heap.size + 1) w.heap.size n m blk) := fun o => hd.below (hba o) (by omega) (by omega)
          have HR : Hid (∀ o, RDsk (wr.alloc o) w2.heap.size r n cp m blk) := fun o => hrd.below (hba o) hrp2 hrr2
          clear hb hd hrd hba
          go_wp2_with fail
          refine (write_dsk (HD.out _) (by omega) a s).mono ?_
          rintro e w4 ⟨rfl, ht4, hd4⟩
          have hsz4 := ht4.size
          have hx4 : ∀ o, w4.cell? ⟨wr.heap.size, o, none⟩ = (#[i64 a, .string s] : Array Value)[o]? := fun o => by
            rw [ht4.cell (by show wr.heap.size < _; simp) (by show wr.heap.size ≠ _; omega) (by show wr.heap.size ≠ _; omega)]
            exact cell_of_row _ _ _ _ 49 (0, 0) (heap_last wr _)
          have hR4 : RDsk w4 w2.heap.size r n cp m blk := (HR.out _).touch2 ht4 (by omega) (by omega) (by omega) (by omega)
          have HB4 : Hid (Below w.heap.size w w4) := (HB.out.alloc HB.out.size _).trans (ht4.below (by omega) (by omega) (by have := HB.out.size; simp; omega))
          have d0 : w4.cell? ⟨wr.heap.size, 0, none⟩ = some (i64 a) := hx4 0
          have d1 : w4.cell? ⟨wr.heap.size, 1, none⟩ = some (.string s) := hx4 1
          have HR4 : Hid (RDsk w4 w2.heap.size r n cp m blk) := hR4
          have HD4 : Hid (Dsk w4 (w.heap.size + 1) w.heap.size n (wrM m a s.size n) (wrB blk a s.data.toList n)) := hd4
          have hwlt : wr.heap.size < w4.heap.size := by simp at hsz4; omega
          clear ht4 hd4 hx4 hR4 hsz4
          go_wp2_with fail
          refine (rwrite_dsk HR4.out (by omega) a s).mono ?_
          rintro e w5 ⟨rfl, ht5, hr5⟩
          have e0 : w5.cell? ⟨wr.heap.size, 0, none⟩ = some (i64 a) := by rw [ht5.cell (by exact hwlt) (by show wr.heap.size ≠ _; omega) (by show wr.heap.size ≠ _; omega)]; exact d0
          have HB5 : Hid (Below w.heap.size w w5) := HB4.out.trans (ht5.below (by have := HB2.out.size; omega) (by have := HB2.out.size; omega) HB4.out.size)
          have HD5 : Hid (Dsk w5 (w.heap.size + 1) w.heap.size n (wrM m a s.size n) (wrB blk a s.data.toList n)) := HD4.out.touch2 ht5 (by omega) (by omega) (by omega) (by omega)
          have HR5 : Hid (RDsk w5 w2.heap.size r n cp (wrM m a s.size n) (wrB blk a s.data.toList n)) := hr5
          have hmm := wrM_le m a s.size n
          clear ht5 hr5 d0 d1
          generalize wrM m a s.size n = m5 at *
          generalize wrB blk a s.data.toList n = blk5 at *
          generalize wrE a s.size n = E5 at *
          go_wp2_with fail
          refine (read_dsk HD5.out a).mono ?_
          rintro e w6 ⟨rfl, rfl⟩
          go_wp2_with fail
          refine (rread_dsk HR5.out a).mono ?_
          rintro e w6 ⟨rfl, rfl⟩
          generalize (⟨(rdS blk5 a n).toArray⟩ : ByteArray) = S5 at *
          generalize rdE a n = R5 at *
          have hcn := HR5.out.cnt
          go_wp2_with fail
          go_quiet ((go_at_call 23; exact Calls.quiet_of_same (writes_any _ _ m5 (by simpa using HD5.out.cnt))))
          go_wp2_with fail
          exact ⟨⟨k + 1, m5, blk5, by omega, by omega, by go_num, below_drewN HB5.out _, HD5.out.same (fun x _ => by simp), HR5.out.same (fun x _ => by simp)⟩, by simp [intOf]; omega⟩
        · have HB : Hid (Below w.heap.size w wr) := hb
          have HD : Hid (Dsk wr (w.heap.size + 1) w.heap.size n m blk) := hd
          have HR : Hid (RDsk wr w2.heap.size r n cp m blk) := hrd
          have HI2 : Hid (ISl wr bo xs) := HI.out.below hb
          clear hb hd hrd
          have hga := gather_ok HD.out bo cap2 xs HI2.out (by rw [HN.out]; omega) (8 * (N : Int) - 3) (by omega)
          rw [HN.out] at hga
          go_wp2_with fail
          refine hga.mono ?_
          rintro e w4 ⟨rfl, hb4⟩
          have HB4 : Hid (Below w.heap.size w w4) := HB.out.trans (hb4.mono HB.out.size)
          have HR4 : Hid (RDsk w4 w2.heap.size r n cp m blk) := HR.out.below hb4 HR.out.plt HR.out.rlt
          have HD4 : Hid (Dsk w4 (w.heap.size + 1) w.heap.size n m blk) := HD.out.below hb4 HD.out.plt HD.out.qlt
          have hrg := rgather_ok HR4.out bo cap2 xs (HI2.out.below hb4) (by rw [HN.out]; omega) (8 * (N : Int) - 3) (by omega)
          rw [HN.out] at hrg
          clear hga hb4
          go_wp2_with fail
          refine hrg.mono ?_
          rintro e w5 ⟨rfl, rfl⟩
          clear hrg
          generalize (⟨(gaS blk xs (8 * (N : Int) - 3) n).toArray⟩ : ByteArray) = S5 at *
          generalize gaE xs (8 * (N : Int) - 3) n = R5 at *
          go_wp2_with (first | (go_at_call 26; refine (len_any _ _ _ _ HD4.out.ptr).mono ?_; rintro e w6 ⟨rfl, rfl⟩) | (go_at_call 9; refine (small_ok _).mono ?_; rintro e w7 ⟨rfl, hb7⟩; have HB7 : Hid (Below w.heap.size w w7) := HB4.out.trans (hb7.mono HB4.out.size); clear hb7))
          go_ret
          exact ⟨by simp, HB7.out⟩
    · go_wp2_with (go_at_call 9; refine (small_ok _).mono ?_; rintro e w5 ⟨rfl, hb5⟩; have HB5 : Hid (Below w.heap.size w w5) := HB2.out.trans (hb5.mono HB2.out.size); clear hb5)
      go_ret
      exact ⟨rfl, HB5.out⟩
set_option maxRecDepth 100000 in
theorem blocksSteps_lifted (os : Os) (started : os.Started) (H : Type) (enc : TypeId × Value → H) :
    ReturnsInHanded {} Try.checked os 4 .any (Rows.blocksStepsSpec.pre6 enc Try.prog Try.f4 Rows.blocksStepsRow.domain false) (Rows.blocksStepsSpec.post enc Try.prog Try.f4 false true false false) := by
  refine returnsInHanded_of_change (C := Try.checked) own started (by kernel_rfl) Try.func4
    (ChangeSpec.witness6 (enc := enc) (C := Try.checked) false ⟨#[], #[.int .i64 0, .slice none 0 0, .slice none 0 0], []⟩ 8 (by kernel_rfl) (by kernel_rfl) (by kernel_rfl) (by kernel_rfl)) ?_
  intro W base args ds gs before hval0 hW hcnd _
  have hval : ∀ (j : Nat) t v, Try.f4.params[j]? = some t → args[j]? = some v → Value.okWide Try.prog W .any base t v := hval0
  have hW' := hW
  obtain ⟨p, q, hA0, hV, rfl, hfz, hnd⟩ := hW
  have hA : DataW.TrodAll enc Try.prog W 0 (fun _ => true) true Try.f4.params.toList args.toList ds p := hA0
  rw [Try.params4] at hA hval
  have hA1 := hA
  obtain ⟨v0, vs0, d0, ds0, p0, q0, hargs, rfl, rfl, h0, r0⟩ := trodAll_cons hA
  obtain ⟨v1, vs1, d1, ds1, p1, q1, rfl, rfl, rfl, h1, r1⟩ := trodAll_cons r0
  obtain ⟨v2, vs2, d2, ds2, p2, q2, rfl, rfl, rfl, h2, r2⟩ := trodAll_cons r1
  obtain ⟨rfl, rfl, rfl⟩ := trodAll_nil r2
  obtain rfl : args = #[v0, v1, v2] := by cases args; simp_all
  obtain ⟨rfl, rfl⟩ := trodVars_none hV
  obtain ⟨n0, rfl, rfl, rfl, w0⟩ := open_int Try.underlying3 (hval 0 3 v0 rfl rfl) h0
  obtain ⟨a1, len1, cap1, rfl⟩ := okWide_slice Try.underlying41 (hval 1 41 v1 rfl rfl)
  obtain ⟨a2, len2, cap2, rfl⟩ := okWide_slice Try.underlying22 (hval 2 22 v2 rfl rfl)
  obtain ⟨hlen1, f, hW1, _⟩ := writes_read h1
  obtain ⟨hlen2, xs, hx, hI⟩ := ints_read h2
  have walk0 : Calls Try.prog 4 #[i64 n0, .slice a1 len1 cap1, .slice a2 len2 cap2] W fun e w' => e = .returned (.bool true) ∧ Below W.heap.size W w' := by
    by_cases hn : n0 < 1 ∨ 64 < n0
    · exact steps_none W n0 _ _ hn
    · obtain ⟨k, rfl⟩ := Int.eq_ofNat_of_zero_le (show 0 ≤ n0 by omega)
      have := steps_walk W k a1 a2 len1 cap1 cap2 f xs (by omega) (by omega) hW1 hlen1 hI (by rw [hx]; exact hlen2)
      rw [hx] at this
      exact this
  refine (walk0).mono fun e W' ⟨he, bel⟩ => ?_
  subst he
  exact ⟨_, rfl, _, _, _, [], _, [], hW', trodAll_mk1 (shut_bool Try.underlying4 _), trodAll_stays laidOut bel _ _ _ _ (by kernel_rfl) hA1, rfl, bel.frame _, fun h => by cases h⟩

theorem blocksSteps : Rows.BlocksStepsSaid :=
  OpenClaim.holds_of_wide 4 Try.f4 rfl rfl rfl rfl rfl rfl rfl ⟨rfl, rfl, rfl, rfl, rfl⟩ rfl rfl rfl rfl rfl (by kernel_rfl) Try.func4 (by kernel_rfl)
    (of_decide_eq_true (by kernel_rfl)) (by unfold Func.isWrapper; first | (rw [if_pos (by decide +kernel)]; kernel_rfl) | (rw [if_neg (by decide +kernel)]; exact ⟨rfl, rfl⟩))
    (fun os started H enc _ => blocksSteps_lifted os started H enc)
#print axioms blocksSteps
end Go.Proofs.Ytdgofhhpgmpgjaa
