/- FramesSteps: every memory, step by step, is as the document's: the law answers true for any number and any list of steps, and changes nothing that was there. No condition. -/
import Derived.Test.YtjfgeledmlkppabDoes
import Derived.Test.YtjfgeledmlkppabLong
namespace Go.Proofs.Ytjfgeledmlkppab
open Go.ChangeShapes Go.WideShapes Go.ChangeAt Go.RowKit

set_option maxHeartbeats 800000 in
theorem steps_none (w : World) (n : Int) (sv : Value) (h : n < 1 ∨ 64 < n) :
    Calls Try.prog 3 #[.int .i64 n, sv] w fun e w' => e = .returned (.bool true) ∧ Below w.heap.size w w' := by
  have h' := h
  rcases h' with h1 | h1
  · go_enter Try.func3, Try.ntmps3
    go_wp2_with fail
    refine (new_no w n h).mono ?_
    rintro e w1 ⟨rfl, rfl⟩
    go_wp2_with fail
    refine (seven_ok _).mono ?_
    rintro e w3 ⟨rfl, hb⟩
    have HB2 : Hid _ := hb
    clear hb
    go_wp2_with fail
    go_ret
    exact ⟨rfl, HB2.out⟩
  · have h2 : ¬ n < 1 := by omega
    go_enter Try.func3, Try.ntmps3
    go_wp2_with fail
    refine (new_no w n h).mono ?_
    rintro e w1 ⟨rfl, rfl⟩
    go_wp2_with fail
    refine (seven_ok _).mono ?_
    rintro e w3 ⟨rfl, hb⟩
    have HB2 : Hid _ := hb
    clear hb
    go_wp2_with fail
    go_ret
    exact ⟨rfl, HB2.out⟩

set_option maxRecDepth 100000 in
set_option maxHeartbeats 2000000 in
theorem steps_walk (w : World) (n : Nat) (ao : Option Addr) (len cap : Nat) (f : Nat → St) (h1 : 1 ≤ n) (h2 : n ≤ 64) (hst : IsSteps w ao len f) (hlen : len ≤ maxLen) :
    Calls Try.prog 3 #[.int .i64 n, .slice ao len cap] w fun e w' => e = .returned (.bool true) ∧ Below w.heap.size w w' := by
  have HLen : Hid (len ≤ maxLen) := hlen
  unfold maxLen at hlen
  have HS : Hid (IsSteps w ao len f) := hst
  clear hst
  go_enter Try.func3, Try.ntmps3
  go_wp2_with fail
  refine (new_ok w n h1 h2).mono ?_
  rintro e w1 ⟨rfl, hb1, hm1⟩
  have HB1 : Hid _ := hb1
  have HM1 : Hid _ := hm1
  clear hb1 hm1
  go_wp2_with fail
  refine (long_any w1 ao len cap f (HS.out.below HB1.out) HLen.out).mono ?_
  rintro e w2 ⟨⟨t, rfl⟩, hb2⟩
  have HB2 : Hid (Below w.heap.size w w2) := HB1.out.trans (hb2.mono HB1.out.size)
  have HM2 : Hid (Mem w2 (w.heap.size + 1) w.heap.size n (List.replicate (16 * n) 0)) := HM1.out.same (fun x hx => ⟨hb2.cell (by have := HM1.out.plt; have := HM1.out.qlt; rcases hx with hx | hx <;> omega), hb2.frozen (by have := HM1.out.plt; have := HM1.out.qlt; rcases hx with hx | hx <;> omega)⟩)
  clear hb2
  cases t with
  | true =>
    go_wp2_with fail
    refine (seven_ok _).mono ?_
    rintro e w3 ⟨rfl, hb⟩
    have HB3 : Hid _ := hb
    clear hb
    go_wp2_with fail
    go_ret
    exact ⟨rfl, HB2.out.trans (HB3.out.mono HB2.out.size)⟩
  | false =>
    go_wp2_with fail
    refine (rnew_ok w2 n h1 h2).mono ?_
    rintro e w3 ⟨rfl, hb3, r, cp, hcp, hr, hrm⟩
    have hp2 := HM2.out.plt
    have hq2 := HM2.out.qlt
    have hboth : Both w3 (w.heap.size + 1) w.heap.size w2.heap.size r n cp (List.replicate (16 * n) 0) :=
      ⟨HM2.out.same (fun x hx => ⟨hb3.cell (by rcases hx with hx | hx <;> omega), hb3.frozen (by rcases hx with hx | hx <;> omega)⟩), hrm, hcp, h2, by omega, by omega, by omega, by omega⟩
    have HB3 : Hid (Below w.heap.size w w3) := HB2.out.trans (hb3.mono HB2.out.size)
    have hlow : w.heap.size ≤ r := by omega
    have HBoth : Hid (Both w3 (w.heap.size + 1) w.heap.size w2.heap.size r n cp (List.replicate (16 * n) 0)) := hboth
    clear hb3 hrm hcp hr hp2 hq2 hboth
    go_wp2_with fail
    go_loopw [61] (fun i wr => ∃ (k : Nat) (l : List UInt8), k ≤ len ∧ i = .int .i64 k ∧ Below w.heap.size w wr ∧ Both wr (w.heap.size + 1) w.heap.size w2.heap.size r n cp l) (fun i _ => len - (intOf i).toNat)
    case atStart => exact ⟨0, _, by omega, rfl, HB3.out, HBoth.out⟩
    case round =>
      obtain ⟨k, l, hk, rfl, hb, hbo⟩ := hrel
      by_cases hlt : k < len
      · obtain ⟨b, off, rfl, hbl, c0, c1, c2, c3, c4, c5⟩ := (HS.out.below hb).at hlt
        have HB : Hid (Below w.heap.size w wr) := hb
        have HO : Hid (Both wr (w.heap.size + 1) w.heap.size w2.heap.size r n cp l) := hbo
        have hs1 := hbo.m.plt
        have hs2 := hbo.rm.qlt
        clear hb hbo
        go_wp2_with fail
        refine (does_any (w := boxed wr (f k).what (f k).a (f k).b (f k).at_ (f k).u (f k).s) (q := w.heap.size) (r := r) (n := n) (cap := cp) (l := l) ⟨HO.out.m.alloc _, HO.out.rm.alloc _, HO.out.cap, HO.out.n64, HO.out.a1, HO.out.a2, HO.out.a3, HO.out.a4⟩ (f k).what (f k).a (f k).b (f k).at_ (f k).u (f k).s).mono ?_
        rintro e w4 ⟨rfl, ht4, hb4⟩
        have hcell : ∀ o, w4.cell? ⟨wr.heap.size, o, none⟩ = (stepArr (f k).what (f k).a (f k).b (f k).at_ (f k).u (f k).s)[o]? := fun o => by
          rw [ht4.cell (by show wr.heap.size < _; simp) (by show wr.heap.size ≠ _; omega) (by show wr.heap.size ≠ _; omega)]
          exact cell_of_row _ _ _ (stepArr (f k).what (f k).a (f k).b (f k).at_ (f k).u (f k).s) 32 (0, 0) (heap_last wr _)
        have d1 : w4.cell? ⟨wr.heap.size, 1, none⟩ = some (.int .i64 (f k).a) := hcell 1
        have d2 : w4.cell? ⟨wr.heap.size, 2, none⟩ = some (.int .i64 (f k).b) := hcell 2
        have d3 : w4.cell? ⟨wr.heap.size, 3, none⟩ = some (.int .i64 (f k).at_) := hcell 3
        have HB4 : Hid (Below w.heap.size w w4) := (HB.out.alloc HB.out.size _).trans (ht4.below (Nat.le_refl _) hlow (by simp; omega))
        have HO4 : Hid (Both w4 (w.heap.size + 1) w.heap.size w2.heap.size r n cp (nextL (f k).what (f k).a (f k).b (f k).at_ (f k).u (f k).s.data.toList l n)) := hb4
        clear hcell ht4 hb4 c0 c1 c2 c3 c4 c5
        generalize nextL (f k).what (f k).a (f k).b (f k).at_ (f k).u (f k).s.data.toList l n = l4 at *
        go_wp2_with fail
        refine (get_mem HO4.out.m (f k).a (f k).at_).mono ?_
        rintro e w5 ⟨rfl, rfl⟩
        go_wp2_with fail
        refine (rget_mem HO4.out.rm rfl h2 (f k).a (f k).at_).mono ?_
        rintro e w6 ⟨rfl, rfl⟩
        go_wp2_with fail
        refine (page_mem HO4.out.m (f k).b).mono ?_
        rintro e w7 ⟨rfl, rfl⟩
        go_wp2_with fail
        refine (rpage_mem HO4.out.rm rfl h2 HO4.out.cap (f k).b).mono ?_
        rintro e w8 ⟨rfl, rfl⟩
        go_wp2_with fail
        exact ⟨⟨k + 1, l4, by omega, by go_num, HB4.out, HO4.out⟩, by simp [intOf]; omega⟩
      · have HB : Hid (Below w.heap.size w wr) := hb
        have HO : Hid (Both wr (w.heap.size + 1) w.heap.size w2.heap.size r n cp l) := hbo
        clear hb hbo
        go_wp2_with fail
        refine (len_mem HO.out.m).mono ?_
        rintro e w5 ⟨rfl, rfl⟩
        go_wp2_with fail
        refine (seven_ok _).mono ?_
        rintro e w6 ⟨rfl, hb6⟩
        have HB6 : Hid _ := hb6
        clear hb6
        go_wp2_with fail
        go_ret
        exact ⟨rfl, HB.out.trans (HB6.out.mono HB.out.size)⟩

set_option maxRecDepth 100000 in
theorem steps_lifted (os : Os) (started : os.Started) (H : Type) (enc : TypeId × Value → H) :
    ReturnsInHanded {} Try.checked os 3 .any (Rows.framesStepsSpec.pre6 enc Try.prog Try.f3 Rows.framesStepsRow.domain false) (Rows.framesStepsSpec.post enc Try.prog Try.f3 false true false false) := by
  refine returnsInHanded_of_change (C := Try.checked) own started (by kernel_rfl) Try.func3
    (ChangeSpec.witness6 (enc := enc) (C := Try.checked) false ⟨#[], #[.int .i64 0, .slice none 0 0], []⟩ 8 (by kernel_rfl) (by kernel_rfl) (by kernel_rfl) (by kernel_rfl)) ?_
  intro W base args ds gs before hval0 hW hcnd _
  have hval : ∀ (j : Nat) t v, Try.f3.params[j]? = some t → args[j]? = some v → Value.okWide Try.prog W .any base t v := hval0
  have hW' := hW
  obtain ⟨p, q, hA0, hV, rfl, hfz, hnd⟩ := hW
  have hA : DataW.TrodAll enc Try.prog W 0 (fun _ => true) true Try.f3.params.toList args.toList ds p := hA0
  rw [Try.params3] at hA hval
  have hA1 := hA
  obtain ⟨v0, vs0, d0, ds0, p0, q0, hargs, rfl, rfl, h0, r0⟩ := trodAll_cons hA
  obtain ⟨v1, vs1, d1, ds1, p1, q1, rfl, rfl, rfl, h1, r1⟩ := trodAll_cons r0
  obtain ⟨rfl, rfl, rfl⟩ := trodAll_nil r1
  obtain rfl : args = #[v0, v1] := by cases args; simp_all
  obtain ⟨rfl, rfl⟩ := trodVars_none hV
  obtain ⟨n, rfl, rfl, rfl, _⟩ := open_int Try.underlying3 (hval 0 3 v0 rfl rfl) h0
  obtain ⟨a0, len, cap, rfl⟩ := okWide_slice Try.underlying22 (hval 1 22 v1 rfl rfl)
  obtain ⟨hlen, f, hst⟩ := steps_read h1
  have walk : Calls Try.prog 3 #[.int .i64 n, .slice a0 len cap] W fun e w' => e = .returned (.bool true) ∧ Below W.heap.size W w' := by
    by_cases hn : n < 1 ∨ 64 < n
    · exact steps_none W n _ hn
    · obtain ⟨k, rfl⟩ := Int.eq_ofNat_of_zero_le (show 0 ≤ n by omega)
      exact steps_walk W k a0 len cap f (by omega) (by omega) hst hlen
  refine walk.mono fun e W' ⟨he, bel⟩ => ?_
  subst he
  exact ⟨_, rfl, _, _, _, [], _, [], hW', trodAll_mk1 (shut_bool Try.underlying4 _), trodAll_stays laidOut bel _ _ _ _ (by kernel_rfl) hA1, rfl, bel.frame _, fun h => by cases h⟩

theorem framesSteps : Rows.FramesStepsSaid :=
  OpenClaim.holds_of_wide 3 Try.f3 rfl rfl rfl rfl rfl rfl rfl ⟨rfl, rfl, rfl, rfl, rfl⟩ rfl rfl rfl rfl rfl (by kernel_rfl) Try.func3 (by kernel_rfl)
    (of_decide_eq_true (by kernel_rfl)) (by unfold Func.isWrapper; first | (rw [if_pos (by decide +kernel)]; kernel_rfl) | (rw [if_neg (by decide +kernel)]; exact ⟨rfl, rfl⟩))
    (fun os started H enc _ => steps_lifted os started H enc)
#print axioms framesSteps
end Go.Proofs.Ytjfgeledmlkppab
