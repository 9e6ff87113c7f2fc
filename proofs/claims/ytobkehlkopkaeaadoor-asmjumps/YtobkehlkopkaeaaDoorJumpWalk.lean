/- AsmJumps: its walk; no statement is proved in this text. -/
import Derived.Test.YtobkehlkopkaeaaDoorJumpP
import Derived.Test.YtobkehlkopkaeaaDoorLoop2
namespace Go.Proofs.YtobkehlkopkaeaaDoor
open Go.ChangeShapes Go.WideShapes Go.ChangeAt Go.RowKit
set_option maxRecDepth 100000

set_option maxHeartbeats 1600000 in
theorem jump_out (w : World) (he : Env w) (a : Int) (h : a < 0 ∨ 200 < a) : Calls Tryd.prog 6 #[i64 a] w fun e w' => e = .returned (.bool true) ∧ Below w.heap.size w w' := by
  have HLP : Hid (Calls Tryd.prog 8 #[] w fun e w' => e = .returned (.bool true) ∧ Below w.heap.size w w') := loop_ok w he
  clear he
  rcases (show a < 0 ∨ (¬ a < 0 ∧ 200 < a) by omega) with h1 | ⟨h1, h2⟩
  all_goals
    clear h
    go_enter Tryd.func6, Tryd.ntmps6
    go_wp2_with fail
    refine HLP.out.mono ?_
    rintro e w1 ⟨rfl, hb1⟩
    have HB1 : Hid (Below w.heap.size w w1) := hb1
    clear hb1
    go_wp2_with fail
    go_ret
    exact ⟨rfl, HB1.out⟩

set_option maxHeartbeats 1600000 in
theorem jump_in (w : World) (he : Env w) (a : Nat) (ha : a ≤ 200) (hj : jAll a = true) : Calls Tryd.prog 6 #[i64 a] w fun e w' => e = .returned (.bool true) ∧ Below w.heap.size w w' := by
  have HE : Hid (Env w) := he
  have HLP : Hid (∀ w, Env w → Calls Tryd.prog 8 #[] w fun e w' => e = .returned (.bool true) ∧ Below w.heap.size w w') := fun w he => loop_ok w he
  obtain ⟨hok, hpl, hlen⟩ := j_at ha hj
  have HRD : Hid (∀ w, Env w → Calls Tryd.prog 9 #[str (jText a)] w fun e w' => e = .returned (.tuple #[str (readR (jText a)).1, i64 ((readR (jText a)).2 : Nat)]) ∧ Below w.heap.size w w') := fun w he => read_ok w he (jText a) (by omega) hpl
  have HJT : Hid (str (jText a) = .string (((((⟨#[102, 97, 114, 58, 10]⟩ : ByteArray) ++ ⟨(stops a).toArray⟩) ++ ⟨#[106, 117, 109, 112, 32, 102, 97, 114, 10, 106, 117, 109, 112, 32, 110, 101, 97, 114, 10]⟩) ++ ⟨(stops a).toArray⟩) ++ ⟨#[110, 101, 97, 114, 58, 10, 115, 116, 111, 112]⟩)) := (by
    refine congrArg Value.string ?_
    apply ByteArray.ext
    unfold jText
    simp : str (jText a) = .string (((((⟨#[102, 97, 114, 58, 10]⟩ : ByteArray) ++ ⟨(stops a).toArray⟩) ++ ⟨#[106, 117, 109, 112, 32, 102, 97, 114, 10, 106, 117, 109, 112, 32, 110, 101, 97, 114, 10]⟩) ++ ⟨(stops a).toArray⟩) ++ ⟨#[110, 101, 97, 114, 58, 10, 115, 116, 111, 112]⟩))
  rw [HJT.out] at HRD
  generalize (readR (jText a)).1 = s at *
  generalize (readR (jText a)).2 = bad at *
  clear he hj hpl hlen HJT
  go_enter Tryd.func6, Tryd.ntmps6
  go_wp2_with fail
  go_loopw [3, 4] (fun v i wr => ∃ k : Nat, i = i64 k ∧ k ≤ a ∧ v = str (stops k) ∧ w = wr) (fun _ i _ => a - (intOf i).toNat)
  case atStart => exact ⟨0, rfl, by omega, rfl, rfl⟩
  case round =>
    obtain ⟨k, rfl, hk, rfl, rfl⟩ := hrel
    have hsl := stops_len k
    have hsz := bz (stops k)
    by_cases hka : k < a
    · have HN : Hid (str (stops (k + 1)) = .string ((⟨(stops k).toArray⟩ : ByteArray) ++ ⟨#[115, 116, 111, 112, 10]⟩)) := (by
        refine congrArg Value.string ?_
        apply ByteArray.ext
        simp [stops] : str (stops (k + 1)) = .string ((⟨(stops k).toArray⟩ : ByteArray) ++ ⟨#[115, 116, 111, 112, 10]⟩))
      clear hok
      go_wp2_with fail
      exact ⟨⟨k + 1, by go_num, by omega, HN.out.symm, trivial⟩, by simp [intOf]; omega⟩
    · obtain rfl : k = a := by omega
      unfold jOk at hok
      by_cases hbad : bad = 0
      · subst hbad
        rw [if_neg (by simp)] at hok
        obtain ⟨e1, e2, ⟨n1a, n1b⟩, ⟨n2a, n2b⟩, ⟨i1a, i1b⟩, ⟨i2a, i2b⟩, s1, s2, hs⟩ := of_decide_eq_true hok
        have HA1 : Hid (∀ w, Tab w → Calls Tryd.prog 19 #[str s, i64 k] w fun e w' => e = .returned (atV (atI s k) (atN s k) 0) ∧ Below w.heap.size w w') := fun w ht => by
          have := at_any w ht s (by unfold maxLen; omega) k
          rw [e1] at this
          exact this
        have HA2 : Hid (∀ w, Tab w → Calls Tryd.prog 19 #[str s, i64 ((k : Int) + 3)] w fun e w' => e = .returned (atV (atI s ((k : Int) + 3)) (atN s ((k : Int) + 3)) 0) ∧ Below w.heap.size w w') := fun w ht => by
          have := at_any w ht s (by unfold maxLen; omega) ((k : Int) + 3)
          rw [e2] at this
          exact this
        clear hok e1 e2
        generalize atN s ((k : Int) + 3) = N2 at *
        generalize atN s (k : Int) = N1 at *
        generalize atI s ((k : Int) + 3) = I2 at *
        generalize atI s (k : Int) = I1 at *
        obtain ⟨o1, x1, y1, z1⟩ := I1
        obtain ⟨o2, x2, y2, z2⟩ := I2
        simp only at i1a i1b i2a i2b s1 s2
        have HS1 : Hid (N1 + z1 = 65536) := s1
        have HS2 : Hid (N2 + z2 = 2 * (k : Int) + 6) := s2
        have hrm : (N1 + z1) % 65536 = 0 := by rw [s1]; rfl
        have hq2 : (N2 + z2 == 2 * (k : Int) + 6) = true := by rw [s2]; simp
        clear s1 s2
        go_wp2_with fail
        refine (HRD.out _ HE.out).mono ?_
        rintro e w1 ⟨rfl, hb1⟩
        have HB1 : Hid (Below w.heap.size w w1) := hb1
        have hz1 := hb1.size
        clear hb1
        go_wp2_with fail
        refine (HA1.out _ (HE.out.below HB1.out).tab).mono ?_
        rintro e w2 ⟨rfl, hb2⟩
        have HB2 : Hid (Below w.heap.size w w2) := HB1.out.trans (hb2.mono hz1)
        have hz2 := HB2.out.size
        clear hb2
        go_upto_region 12 with fail
        obtain ⟨V, hV⟩ : ∃ V, V = w2.alloc (.cells #[i64 o1, i64 x1, i64 y1, i64 z1] 27) := ⟨_, rfl⟩
        have HBV : Hid (Below w.heap.size w V) := by rw [hV]; exact HB2.out.alloc hz2 _
        have hzV : w2.heap.size < V.heap.size := by rw [hV]; simp
        have HIV : Hid (V.heap[w2.heap.size]? = some (.cells #[i64 o1, i64 x1, i64 y1, i64 z1] 27 (0, 0))) := by rw [hV]; exact heap_at rfl _
        rw [← hV]
        clear hV
        go_wp2_with fail
        refine (HA2.out _ (HE.out.below HBV.out).tab).mono ?_
        rintro e w3 ⟨rfl, hb3⟩
        have HB3 : Hid (Below w.heap.size w w3) := HBV.out.trans (hb3.mono (by omega))
        have hz3 : V.heap.size ≤ w3.heap.size := hb3.size
        have HI3 : Hid (w3.heap[w2.heap.size]? = some (.cells #[i64 o1, i64 x1, i64 y1, i64 z1] 27 (0, 0))) := (hb3.block _ hzV).trans HIV.out
        clear hb3
        go_upto_region 13 with fail
        obtain ⟨U, hU⟩ : ∃ U, U = w3.alloc (.cells #[i64 o2, i64 x2, i64 y2, i64 z2] 27) := ⟨_, rfl⟩
        have HBU : Hid (Below w.heap.size w U) := by rw [hU]; exact HB3.out.alloc (by omega) _
        have hzU : w.heap.size ≤ U.heap.size := HBU.out.size
        have c1 : U.cell? ⟨w2.heap.size, 3, none⟩ = some (i64 z1) := by
          rw [hU, (below_one w3 _).cell (p := ⟨w2.heap.size, 3, none⟩) (by show w2.heap.size < w3.heap.size; omega)]
          exact (four_cells HI3.out).2.2.2.1
        have c2 : U.cell? ⟨w3.heap.size, 3, none⟩ = some (i64 z2) := (four_cells (by rw [hU]; exact heap_at rfl _)).2.2.2.1
        have d1 : w2.heap.size < U.heap.size := by rw [hU]; simp; omega
        have d2 : w3.heap.size < U.heap.size := by rw [hU]; simp
        rw [← hU]
        clear hU
        go_wp2_with (go_at_call 8; refine (HLP.out _ (HE.out.below HBU.out)).mono ?_; rintro e w5 ⟨rfl, hb5⟩; have HB5 : Hid (Below w.heap.size w w5) := HBU.out.trans (hb5.mono hzU); clear hb5)
        go_ret
        exact ⟨rfl, HB5.out⟩
      · rw [if_pos (by simpa using hbad)] at hok
        obtain ⟨e1, e2, rfl⟩ := of_decide_eq_true hok
        have hbb : ((bad : Int) != 0) = true := by simp; omega
        clear hok hbad
        go_wp2_with fail
        refine (HRD.out _ HE.out).mono ?_
        rintro e w1 ⟨rfl, hb1⟩
        have HB1 : Hid (Below w.heap.size w w1) := hb1
        have hz1 := hb1.size
        clear hb1
        go_wp2_with (go_at_call 8; refine (HLP.out _ (HE.out.below HB1.out)).mono ?_; rintro e w5 ⟨rfl, hb5⟩; have HB5 : Hid (Below w.heap.size w w5) := HB1.out.trans (hb5.mono hz1); clear hb5)
        go_ret
        exact ⟨rfl, HB5.out⟩
end Go.Proofs.YtobkehlkopkaeaaDoor
