/- FramesApart: a frame's bytes change by calls that name it alone: the law answers true for any list of steps and any number, and changes nothing that was there. No condition. -/
import Derived.Test.YtjfgeledmlkppabDoes
import Derived.Test.YtjfgeledmlkppabLong
namespace Go.Proofs.Ytjfgeledmlkppab
open Go.ChangeShapes Go.WideShapes Go.ChangeAt Go.RowKit

theorem fr_other (l v : List UInt8) (o f : Nat) (h : o + v.length ≤ l.length) (hap : o + v.length ≤ f * 16 ∨ f * 16 + 16 ≤ o) : fr (over l o v) f = fr l f := by
  apply List.ext_getElem?
  intro j
  by_cases hj : j < 16
  · rw [fr_get _ _ _ hj, fr_get _ _ _ hj, over_get _ _ _ h]
    by_cases h1 : f * 16 + j < o
    · rw [if_pos h1]
    · rw [if_neg h1, if_neg (by omega)]
  · rw [List.getElem?_eq_none (by simp [fr]; omega), List.getElem?_eq_none (by simp [fr]; omega)]

/-- A step changes one frame's bytes at most. -/
theorem fr_next (what a b at_ : Int) (u : UInt8) (s l : List UInt8) (n f : Nat) (hl : l.length = 16 * n) (ht : ¬ (if what = 2 then b else a) = (f : Int)) : fr (nextL what a b at_ u s l n) f = fr l f := by
  have hld : ∀ (s : List UInt8), ¬ a = (f : Int) → fr (ldL l a s n) f = fr l f := by
    intro s ha
    unfold ldL
    split
    · rename_i hc
      obtain ⟨k, rfl, hk⟩ := inB_nat hc.1
      have := pad_len s hc.2
      exact fr_other _ _ _ _ (by simp only [Int.toNat_natCast]; omega) (by simp only [Int.toNat_natCast]; omega)
    · rfl
  unfold nextL
  split
  · rename_i hw
    rw [if_neg (by omega)] at ht
    unfold stL
    split
    · rename_i hz
      obtain ⟨k, j, rfl, rfl, hk, hj⟩ := plc_zero hz
      exact fr_other _ _ _ _ (by simp; omega) (by simp; omega)
    · rfl
  · split
    · rename_i hw
      rw [if_pos hw] at ht
      unfold cpL
      split
      · rename_i hc
        obtain ⟨k, rfl, hk⟩ := inB_nat hc.1
        obtain ⟨j, rfl, hj⟩ := inB_nat hc.2
        have := fr_len l k n hk hl
        exact fr_other _ _ _ _ (by simp only [Int.toNat_natCast]; omega) (by simp only [Int.toNat_natCast]; omega)
      · rfl
    · rename_i hw
      rw [if_neg hw] at ht
      split
      · exact hld [] ht
      · split
        · exact hld s ht
        · rfl

set_option maxHeartbeats 800000 in
theorem apart_none (w : World) (at_ : Int) (ao : Option Addr) (len cap : Nat) (f : Nat → St) (hst : IsSteps w ao len f) (hlen : len ≤ maxLen) (h : at_ < 0 ∨ 7 < at_) :
    Calls Try.prog 4 #[.slice ao len cap, .int .i64 at_] w fun e w' => e = .returned (.bool true) ∧ Below w.heap.size w w' := by
  have HLen : Hid (len ≤ maxLen) := hlen
  have HS : Hid (IsSteps w ao len f) := hst
  clear hst hlen
  rcases h with h1 | h1
  · go_enter Try.func4, Try.ntmps4
    go_wp2_with fail
    refine (new_ok w 8 (by omega) (by omega)).mono ?_
    rintro e w1 ⟨rfl, hb1, hm1⟩
    have HB1 : Hid _ := hb1
    clear hb1 hm1
    go_wp2_with fail
    refine (long_any w1 ao len cap f (HS.out.below HB1.out) HLen.out).mono ?_
    rintro e w2 ⟨⟨t, rfl⟩, hb2⟩
    have HB2 : Hid (Below w.heap.size w w2) := HB1.out.trans (hb2.mono HB1.out.size)
    clear hb2
    cases t
    all_goals
      go_wp2_with fail
      refine (seven_ok _).mono ?_
      rintro e w3 ⟨rfl, hb⟩
      have HB3 : Hid _ := hb
      clear hb
      go_wp2_with fail
      go_ret
      exact ⟨rfl, HB2.out.trans (HB3.out.mono HB2.out.size)⟩
  · have h2 : ¬ at_ < 0 := by omega
    go_enter Try.func4, Try.ntmps4
    go_wp2_with fail
    refine (new_ok w 8 (by omega) (by omega)).mono ?_
    rintro e w1 ⟨rfl, hb1, hm1⟩
    have HB1 : Hid _ := hb1
    clear hb1 hm1
    go_wp2_with fail
    refine (long_any w1 ao len cap f (HS.out.below HB1.out) HLen.out).mono ?_
    rintro e w2 ⟨⟨t, rfl⟩, hb2⟩
    have HB2 : Hid (Below w.heap.size w w2) := HB1.out.trans (hb2.mono HB1.out.size)
    clear hb2
    cases t
    all_goals
      go_wp2_with fail
      refine (seven_ok _).mono ?_
      rintro e w3 ⟨rfl, hb⟩
      have HB3 : Hid _ := hb
      clear hb
      go_wp2_with fail
      go_ret
      exact ⟨rfl, HB2.out.trans (HB3.out.mono HB2.out.size)⟩

set_option maxRecDepth 100000 in
set_option maxHeartbeats 2000000 in
theorem apart_walk (w : World) (fa : Nat) (ao : Option Addr) (len cap : Nat) (f : Nat → St) (hfa : fa ≤ 7) (hst : IsSteps w ao len f) (hlen : len ≤ maxLen) :
    Calls Try.prog 4 #[.slice ao len cap, .int .i64 fa] w fun e w' => e = .returned (.bool true) ∧ Below w.heap.size w w' := by
  have HLen : Hid (len ≤ maxLen) := hlen
  unfold maxLen at hlen
  have HS : Hid (IsSteps w ao len f) := hst
  clear hst
  go_enter Try.func4, Try.ntmps4
  go_wp2_with fail
  refine (new_ok w 8 (by omega) (by omega)).mono ?_
  rintro e w1 ⟨rfl, hb1, hm1⟩
  have HB1 : Hid _ := hb1
  have HM1 : Hid _ := hm1
  clear hb1 hm1
  go_wp2_with fail
  refine (long_any w1 ao len cap f (HS.out.below HB1.out) HLen.out).mono ?_
  rintro e w2 ⟨⟨t, rfl⟩, hb2⟩
  have HB2 : Hid (Below w.heap.size w w2) := HB1.out.trans (hb2.mono HB1.out.size)
  have HM2 : Hid (Mem w2 (w.heap.size + 1) w.heap.size 8 (List.replicate (16 * 8) 0)) := HM1.out.same (fun x hx => ⟨hb2.cell (by have := HM1.out.plt; have := HM1.out.qlt; rcases hx with hx | hx <;> omega), hb2.frozen (by have := HM1.out.plt; have := HM1.out.qlt; rcases hx with hx | hx <;> omega)⟩)
  clear hb2
  cases t with
  | true =>
    go_wp2_with fail
    refine (seven_ok _).mono ?_
    rintro e w3 ⟨rfl, hb⟩
    have HB3 : Hid _ := hb
    clear hb
    go_wp2_with fail
    go_ret
    exact ⟨rfl, HB2.out.trans (HB3.out.mono HB2.out.size)⟩
  | false =>
    go_wp2_with fail
    refine (rnew_ok w2 8 (by omega) (by omega)).mono ?_
    rintro e w3 ⟨rfl, hb3, r, cp, hcp, hr, hrm⟩
    have hp2 := HM2.out.plt
    have hq2 := HM2.out.qlt
    have hboth : Both w3 (w.heap.size + 1) w.heap.size w2.heap.size r 8 cp (List.replicate (16 * 8) 0) :=
      ⟨HM2.out.same (fun x hx => ⟨hb3.cell (by rcases hx with hx | hx <;> omega), hb3.frozen (by rcases hx with hx | hx <;> omega)⟩), hrm, hcp, by omega, by omega, by omega, by omega, by omega⟩
    have HB3 : Hid (Below w.heap.size w w3) := HB2.out.trans (hb3.mono HB2.out.size)
    have hlow : w.heap.size ≤ r := by omega
    have HBoth : Hid (Both w3 (w.heap.size + 1) w.heap.size w2.heap.size r 8 cp (List.replicate (16 * 8) 0)) := hboth
    clear hb3 hrm hcp hr hp2 hq2 hboth
    go_wp2_with fail
    go_loopw [49] (fun i wr => ∃ (k : Nat) (l : List UInt8), k ≤ len ∧ i = .int .i64 k ∧ Below w.heap.size w wr ∧ Both wr (w.heap.size + 1) w.heap.size w2.heap.size r 8 cp l) (fun i _ => len - (intOf i).toNat)
    case atStart => exact ⟨0, _, by omega, rfl, HB3.out, HBoth.out⟩
    case round =>
      obtain ⟨k, l, hk, rfl, hb, hbo⟩ := hrel
      by_cases hlt : k < len
      · obtain ⟨b, off, rfl, hbl, c0, c1, c2, c3, c4, c5⟩ := (HS.out.below hb).at hlt
        have HB : Hid (Below w.heap.size w wr) := hb
        have HO : Hid (Both wr (w.heap.size + 1) w.heap.size w2.heap.size r 8 cp l) := hbo
        have hs1 := hbo.m.plt
        have hs2 := hbo.rm.qlt
        have hbl8 := hbo.m.len
        clear hb hbo
        have hib : inB fa 8 = true := by simp [inB]; omega
        have e1 : pgE fa 8 = 0 := by unfold pgE; rw [if_pos hib]
        have e2 : ∀ l, pgS l fa 8 = fr l fa := fun l => by unfold pgS; rw [if_pos hib]; rfl
        have E1 : Hid _ := e1
        have E2 : Hid _ := e2
        clear e1 e2
        go_wp2_with fail
        refine (page_mem (HO.out.m.alloc _) fa).mono ?_
        rintro e w5 ⟨he, rfl⟩
        rw [E1.out, E2.out] at he
        subst he
        go_wp2_with fail
        refine (does_any (w := boxed wr (f k).what (f k).a (f k).b (f k).at_ (f k).u (f k).s) (q := w.heap.size) (r := r) (n := 8) (cap := cp) (l := l) ⟨HO.out.m.alloc _, HO.out.rm.alloc _, HO.out.cap, HO.out.n64, HO.out.a1, HO.out.a2, HO.out.a3, HO.out.a4⟩ (f k).what (f k).a (f k).b (f k).at_ (f k).u (f k).s).mono ?_
        rintro e w4 ⟨rfl, ht4, hb4⟩
        have hcell : ∀ o, w4.cell? ⟨wr.heap.size, o, none⟩ = (stepArr (f k).what (f k).a (f k).b (f k).at_ (f k).u (f k).s)[o]? := fun o => by
          rw [ht4.cell (by show wr.heap.size < _; simp) (by show wr.heap.size ≠ _; omega) (by show wr.heap.size ≠ _; omega)]
          exact cell_of_row _ _ _ (stepArr (f k).what (f k).a (f k).b (f k).at_ (f k).u (f k).s) 32 (0, 0) (heap_last wr _)
        have d0 : w4.cell? ⟨wr.heap.size, 0, none⟩ = some (.int .i64 (f k).what) := hcell 0
        have d1 : w4.cell? ⟨wr.heap.size, 1, none⟩ = some (.int .i64 (f k).a) := hcell 1
        have d2 : w4.cell? ⟨wr.heap.size, 2, none⟩ = some (.int .i64 (f k).b) := hcell 2
        have hfr := fr_next (f k).what (f k).a (f k).b (f k).at_ (f k).u (f k).s.data.toList l 8 fa hbl8
        have HF : Hid (¬ (if (f k).what = 2 then (f k).b else (f k).a) = (fa : Int) → fr (nextL (f k).what (f k).a (f k).b (f k).at_ (f k).u (f k).s.data.toList l 8) fa = fr l fa) := hfr
        have HB4 : Hid (Below w.heap.size w w4) := (HB.out.alloc HB.out.size _).trans (ht4.below (Nat.le_refl _) hlow (by simp; omega))
        have HO4 : Hid (Both w4 (w.heap.size + 1) w.heap.size w2.heap.size r 8 cp (nextL (f k).what (f k).a (f k).b (f k).at_ (f k).u (f k).s.data.toList l 8)) := hb4
        clear hcell ht4 hb4 c0 c1 c2 c3 c4 c5 hfr
        generalize nextL (f k).what (f k).a (f k).b (f k).at_ (f k).u (f k).s.data.toList l 8 = l4 at *
        go_wp2_with fail
        refine (page_mem HO4.out.m fa).mono ?_
        rintro e w7 ⟨he, rfl⟩
        rw [E1.out, E2.out] at he
        by_cases hw2 : (f k).what = 2
        · have HW2 : Hid _ := hw2
          have hwb : ((f k).what == 2) = true := by simpa using hw2
          clear hw2
          by_cases hto : (f k).b = (fa : Int)
          · have htb : ((f k).b != (fa : Int)) = false := by simpa using hto
            clear hto
            subst he
            go_wp2_with fail
            exact ⟨⟨k + 1, l4, by omega, by go_num, HB4.out, HO4.out⟩, by simp [intOf]; omega⟩
          · rw [HF.out (by rw [if_pos HW2.out]; exact hto)] at he
            have htb : ((f k).b != (fa : Int)) = true := by simpa using hto
            clear hto
            subst he
            go_wp2_with fail
            exact ⟨⟨k + 1, l4, by omega, by go_num, HB4.out, HO4.out⟩, by simp [intOf]; omega⟩
        · have HW2 : Hid _ := hw2
          have hwb : ((f k).what == 2) = false := by simpa using hw2
          clear hw2
          by_cases hto : (f k).a = (fa : Int)
          · have htb : ((f k).a != (fa : Int)) = false := by simpa using hto
            clear hto
            subst he
            go_wp2_with fail
            exact ⟨⟨k + 1, l4, by omega, by go_num, HB4.out, HO4.out⟩, by simp [intOf]; omega⟩
          · rw [HF.out (by rw [if_neg HW2.out]; exact hto)] at he
            have htb : ((f k).a != (fa : Int)) = true := by simpa using hto
            clear hto
            subst he
            go_wp2_with fail
            exact ⟨⟨k + 1, l4, by omega, by go_num, HB4.out, HO4.out⟩, by simp [intOf]; omega⟩
      · have HB : Hid (Below w.heap.size w wr) := hb
        have HO : Hid (Both wr (w.heap.size + 1) w.heap.size w2.heap.size r 8 cp l) := hbo
        clear hb hbo
        go_wp2_with fail
        refine (seven_ok _).mono ?_
        rintro e w6 ⟨rfl, hb6⟩
        have HB6 : Hid _ := hb6
        clear hb6
        go_wp2_with fail
        go_ret
        exact ⟨rfl, HB.out.trans (HB6.out.mono HB.out.size)⟩

set_option maxRecDepth 100000 in
theorem apart_lifted (os : Os) (started : os.Started) (H : Type) (enc : TypeId × Value → H) :
    ReturnsInHanded {} Try.checked os 4 .any (Rows.framesApartSpec.pre6 enc Try.prog Try.f4 Rows.framesApartRow.domain false) (Rows.framesApartSpec.post enc Try.prog Try.f4 false true false false) := by
  refine returnsInHanded_of_change (C := Try.checked) own started (by kernel_rfl) Try.func4
    (ChangeSpec.witness6 (enc := enc) (C := Try.checked) false ⟨#[], #[.slice none 0 0, .int .i64 0], []⟩ 8 (by kernel_rfl) (by kernel_rfl) (by kernel_rfl) (by kernel_rfl)) ?_
  intro W base args ds gs before hval0 hW hcnd _
  have hval : ∀ (j : Nat) t v, Try.f4.params[j]? = some t → args[j]? = some v → Value.okWide Try.prog W .any base t v := hval0
  have hW' := hW
  obtain ⟨p, q, hA0, hV, rfl, hfz, hnd⟩ := hW
  have hA : DataW.TrodAll enc Try.prog W 0 (fun _ => true) true Try.f4.params.toList args.toList ds p := hA0
  rw [Try.params4] at hA hval
  have hA1 := hA
  obtain ⟨v0, vs0, d0, ds0, p0, q0, hargs, rfl, rfl, h0, r0⟩ := trodAll_cons hA
  obtain ⟨v1, vs1, d1, ds1, p1, q1, rfl, rfl, rfl, h1, r1⟩ := trodAll_cons r0
  obtain ⟨rfl, rfl, rfl⟩ := trodAll_nil r1
  obtain rfl : args = #[v0, v1] := by cases args; simp_all
  obtain ⟨rfl, rfl⟩ := trodVars_none hV
  obtain ⟨a0, len, cap, rfl⟩ := okWide_slice Try.underlying22 (hval 0 22 v0 rfl rfl)
  obtain ⟨hlen, f, hst⟩ := steps_read h0
  obtain ⟨n, rfl, rfl, rfl, _⟩ := open_int Try.underlying3 (hval 1 3 v1 rfl rfl) h1
  have walk : Calls Try.prog 4 #[.slice a0 len cap, .int .i64 n] W fun e w' => e = .returned (.bool true) ∧ Below W.heap.size W w' := by
    by_cases hn : n < 0 ∨ 7 < n
    · exact apart_none W n a0 len cap f hst hlen hn
    · obtain ⟨k, rfl⟩ := Int.eq_ofNat_of_zero_le (show 0 ≤ n by omega)
      exact apart_walk W k a0 len cap f (by omega) hst hlen
  refine walk.mono fun e W' ⟨he, bel⟩ => ?_
  subst he
  exact ⟨_, rfl, _, _, _, [], _, [], hW', trodAll_mk1 (shut_bool Try.underlying4 _), trodAll_stays laidOut bel _ _ _ _ (by kernel_rfl) hA1, rfl, bel.frame _, fun h => by cases h⟩

theorem framesApart : Rows.FramesApartSaid :=
  OpenClaim.holds_of_wide 4 Try.f4 rfl rfl rfl rfl rfl rfl rfl ⟨rfl, rfl, rfl, rfl, rfl⟩ rfl rfl rfl rfl rfl (by kernel_rfl) Try.func4 (by kernel_rfl)
    (of_decide_eq_true (by kernel_rfl)) (by unfold Func.isWrapper; first | (rw [if_pos (by decide +kernel)]; kernel_rfl) | (rw [if_neg (by decide +kernel)]; exact ⟨rfl, rfl⟩))
    (fun os started H enc _ => apart_lifted os started H enc)
#print axioms framesApart
end Go.Proofs.Ytjfgeledmlkppab
