/- OpensLoad's walk; no statement is proved in this text. -/
import Derived.Test.YtaapiffglfppnaaSt
import Derived.Test.YtaapiffglfppnaaLd
import Derived.Test.YtaapiffglfppnaaAr
namespace Go.Proofs.Ytaapiffglfppnaa
open Go.ChangeShapes Go.WideShapes Go.ChangeAt Go.RowKit Go.Deep
attribute [local go_sem ↓] Go.wp_at_zero Go.wp_at_succ

set_option maxRecDepth 100000 in
set_option maxHeartbeats 12800000 in
theorem load_any (w : World) (ao : Option Addr) (len cap : Nat) (a1 : Option Addr) (len1 cap1 : Nat) (a2' : Option Addr) (len2 cap2 : Nat) (f : Nat → Stp) (X : List Op4) (Y : List Sl3) (hlen : len ≤ maxLen) (hlen1 : len1 ≤ maxLen) (hlen2 : len2 ≤ maxLen) (hX1 : X.length = len1) (hY1 : Y.length = len2) (hX : Rd4 w a1 X) (hY : Rd3 w a2' Y) (hS : SSl w ao len f) : Calls Try.prog 6 #[.slice ao len cap, .slice a1 len1 cap1, .slice a2' len2 cap2] w fun e w' => e = .returned (.bool true) ∧ Below w.heap.size w w' := by
  have hm : (len : Int) ≤ 9223372036854775807 := by unfold maxLen at hlen; omega
  have hm1 : (len1 : Int) ≤ 9223372036854775807 := by unfold maxLen at hlen1; omega
  have hm2 : (len2 : Int) ≤ 9223372036854775807 := by unfold maxLen at hlen2; omega
  have HX1 : Hid (len1 = X.length) := hX1.symm
  have HY1 : Hid (len2 = Y.length) := hY1.symm
  have HX := hid hX
  have HY := hid hY
  have HSb := hid hS
  have HNw := hid (new_ok w V0)
  obtain ⟨t, ht⟩ : ∃ t, t = w.heap.size := ⟨_, rfl⟩
  have HT := hid ht
  rw [← ht] at HNw ⊢
  clear hS hlen hlen1 hlen2 ht hX hY hX1 hY1
  by_cases h60 : 60 < len
  · have h60' : (60 : Int) < len := by omega
    go_enter Try.func6, Try.ntmps6
    go_wp2_with fail
    refine HNw.out.mono ?_
    rintro e w1 ⟨rfl, ht1, hb1⟩
    have HB1 : Hid (Below t w w1) := hb1
    have hlo1 : t ≤ w1.heap.size := Nat.le_of_lt ht1.lt
    clear ht1 hb1 HNw
    go_wp2_with fail
    refine (nine_ok w1).mono ?_
    rintro e w2 ⟨rfl, hb2⟩
    have HB2 : Hid (Below t w w2) := HB1.out.trans (hb2.mono hlo1)
    clear hb2
    go_wp2_with fail
    go_ret
    exact ⟨rfl, HB2.out⟩
  by_cases h61 : 60 < len1
  · have h60' : ¬ (60 : Int) < len := by omega
    have h61' : (60 : Int) < len1 := by omega
    go_enter Try.func6, Try.ntmps6
    go_wp2_with fail
    refine HNw.out.mono ?_
    rintro e w1 ⟨rfl, ht1, hb1⟩
    have HB1 : Hid (Below t w w1) := hb1
    have hlo1 : t ≤ w1.heap.size := Nat.le_of_lt ht1.lt
    clear ht1 hb1 HNw
    go_wp2_with fail
    refine (nine_ok w1).mono ?_
    rintro e w2 ⟨rfl, hb2⟩
    have HB2 : Hid (Below t w w2) := HB1.out.trans (hb2.mono hlo1)
    clear hb2
    go_wp2_with fail
    go_ret
    exact ⟨rfl, HB2.out⟩
  by_cases h62 : 60 < len2
  · have h60' : ¬ (60 : Int) < len := by omega
    have h61' : ¬ (60 : Int) < len1 := by omega
    have h62' : (60 : Int) < len2 := by omega
    go_enter Try.func6, Try.ntmps6
    go_wp2_with fail
    refine HNw.out.mono ?_
    rintro e w1 ⟨rfl, ht1, hb1⟩
    have HB1 : Hid (Below t w w1) := hb1
    have hlo1 : t ≤ w1.heap.size := Nat.le_of_lt ht1.lt
    clear ht1 hb1 HNw
    go_wp2_with fail
    refine (nine_ok w1).mono ?_
    rintro e w2 ⟨rfl, hb2⟩
    have HB2 : Hid (Below t w w2) := HB1.out.trans (hb2.mono hlo1)
    clear hb2
    go_wp2_with fail
    go_ret
    exact ⟨rfl, HB2.out⟩
  have h61' : ¬ (60 : Int) < len1 := by omega
  have h62' : ¬ (60 : Int) < len2 := by omega
  have h60' : ¬ (60 : Int) < len := by omega
  go_enter Try.func6, Try.ntmps6
  go_wp2_with fail
  refine HNw.out.mono ?_
  rintro e w1 ⟨rfl, ht1, hb1⟩
  have HT1 := hid ht1
  have HB1 : Hid (Below t w w1) := hb1
  clear ht1 hb1 HNw
  have hz30 := zero30
  go_wp2_with fail
  have HW3 : Hid (BsX (w1.alloc (.cells #[.slice none 0 0, .slice none 0 0] 30)) t w1.heap.size w1.heap.size) := bs_new HT1.out
  have HB3 : Hid (Below t w (w1.alloc (.cells #[.slice none 0 0, .slice none 0 0] 30))) := HB1.out.trans ((below_one w1 _).mono (Nat.le_of_lt HT1.out.lt))
  clear hz30
  obtain ⟨r, hr⟩ : ∃ r, r = w1.heap.size := ⟨_, rfl⟩
  rw [← hr] at HW3 ⊢
  generalize w1.alloc (.cells #[.slice none 0 0, .slice none 0 0] 30) = w3 at *
  clear hr HT1 HB1
  go_loopw [48] (fun u wr => ∃ (k : Nat), k ≤ len ∧ u = i64 k ∧ Hid (BsX wr t r r) ∧ Hid (Below t w wr)) (fun u _ => len - (intOf u).toNat)
  case atStart => exact ⟨0, by omega, rfl, HW3, HB3⟩
  case round =>
    obtain ⟨k, hk, rfl, HBo, HBw⟩ := hrel
    clear HW3 HB3
    by_cases hlt : k < len
    · have hkI : (k : Int) < len := by omega
      obtain ⟨b0, of1, rfl, hbl, hr⟩ := (HSb.out.below (HT.out ▸ HBw.out)).at hlt
      obtain ⟨x, hx⟩ : ∃ x, f k = x := ⟨_, rfl⟩
      rw [hx] at hr
      have c0 : wr.cell? ⟨b0, of1 + k * 6, none⟩ = some (i64 x.what) := hr 0 _ rfl
      have c1 : wr.cell? ⟨b0, of1 + k * 6 + 1, none⟩ = some (i64 x.pid) := hr 1 _ rfl
      have c2 : wr.cell? ⟨b0, of1 + k * 6 + 2, none⟩ = some (i64 x.slot) := hr 2 _ rfl
      have c3 : wr.cell? ⟨b0, of1 + k * 6 + 3, none⟩ = some (i64 x.kind) := hr 3 _ rfl
      have c4 : wr.cell? ⟨b0, of1 + k * 6 + 4, none⟩ = some (i64 x.obj) := hr 4 _ rfl
      have c5 : wr.cell? ⟨b0, of1 + k * 6 + 5, none⟩ = some (i64 x.n) := hr 5 _ rfl
      have HBV : Hid (Below t w (wr.alloc (spO x))) := HBw.out.alloc HBo.out.lob _
      have HBoV : Hid (BsX (wr.alloc (spO x)) t r r) := HBo.out.below (below_one wr _)
      have HD := hid (does_ok (wr.alloc (spO x)) t r r x HBoV.out)
      clear hx hr
      go_wp2_with fail
      refine HD.out.mono ?_
      rintro e w5 ⟨rfl, hbo5, hf5⟩
      have HB5 : Hid (Below t w w5) := HBV.out.trans hf5.below
      have HBo5 := hid hbo5
      clear hbo5 hf5 HD c0 c1 c2 c3 c4 c5
      go_wp2_with fail
      exact ⟨⟨k + 1, by omega, by go_num, HBo5, HB5⟩, by simp [intOf]; omega⟩
    · obtain ⟨wo, hwo⟩ : ∃ wo, wo = wr := ⟨_, rfl⟩
      subst hwo
      obtain ⟨A, V, hbs⟩ := HBo.out
      have htk : t ≤ wo.heap.size := hbs.lob
      have HBs := hid hbs
      have HJ := hid hbs.jn
      have HOp := hid (opens_ok wo (pq t) A V hbs.tg.tv hbs.jn.sml)
      have HGO : Hid (∀ W W' e, GotB W W' e (nmL A V) → ∃ ao cap, e = .returned (.slice ao (opL A V).length cap) ∧ Rd4 W' ao (opL A V) ∧ (opL A V).length ≤ cap) := fun W W' e hg => hg.op HJ.out
      have HSl : Hid (∀ W, Below wo.heap.size wo W → Calls Try.prog 16 #[pq t] W fun e w' => GotL W w' e (slL A V) ∧ Below W.heap.size W w') := fun W hW => slots_ok W (pq t) A V (HBs.out.below hW).tg.tv
      have hlO := op_len A V
      have hlS := sl_len A V
      clear hbs HBo
      go_wp2_with fail
      refine HOp.out.mono ?_
      rintro e w5 ⟨hg5, hb5⟩
      obtain ⟨aO, cO, rfl, hR5, hc5⟩ := HGO.out _ _ _ hg5
      have HR5 := hid hR5
      have HB5 : Hid (Below wo.heap.size wo w5) := hb5
      have HS5 := hid (HSl.out w5 hb5)
      clear hg5 hb5 hR5 HOp HGO HSl
      go_wp2_with fail
      refine HS5.out.mono ?_
      rintro e w6 ⟨⟨aS, cS, rfl, hown⟩, hb6⟩
      have HR6 := hid (HR5.out.below hb6)
      have HQ6 : Hid (Rd3 w6 aS (slL A V)) := Rd3.own hown
      have HB6 : Hid (Below wo.heap.size wo w6) := HB5.out.trans (hb6.mono HB5.out.size)
      have HL6 := hid (load_ok w6 aO aS cO cS (opL A V) (slL A V) (by omega) (by omega) HR6.out HQ6.out)
      have hs6 : wo.heap.size ≤ w6.heap.size := HB6.out.size
      clear hown hb6 HS5 HR5 HR6 HQ6 HB5
      go_wp2_with fail
      refine HL6.out.mono ?_
      rintro e w7 ⟨hle, hb7⟩
      rcases hle with ⟨h, _⟩ | ⟨_, t2, A2, V2, rfl, ht2, hJ2, hT2, hm1, hm2, _, _⟩
      · exact absurd (right_op HJ.out) h
      have HB7 : Hid (Below wo.heap.size wo w7) := HB6.out.trans (hb7.mono hs6)
      have HRt7 : Hid (Rt w7 r r (opL A2 V2) (slL A2 V2)) := by
        rw [op_same hm1, sl_same hm2]
        exact (HBs.out.below HB7.out).rt
      have HSa := hid (same_ok hT2 hJ2 HRt7.out)
      have HBw7 : Hid (Below t w w7) := HBw.out.trans (HB7.out.mono htk)
      have hs7 : wo.heap.size ≤ w7.heap.size := HB7.out.size
      clear hT2 hJ2 hm1 hm2 hb7 HL6 HB6 HRt7 HJ HBs HBw HB7
      go_wp2_with fail
      refine HSa.out.mono ?_
      rintro e w8 ⟨rfl, hb8⟩
      have HBw8 : Hid (Below t w w8) := HBw7.out.trans (hb8.mono (by omega))
      have ht8 : t ≤ w8.heap.size := Nat.le_trans (Nat.le_trans htk hs7) hb8.size
      have HBo8 : Hid (Below w.heap.size w w8) := by rw [← HT.out]; exact HBw8.out
      have hs8 : w.heap.size ≤ w8.heap.size := HBo8.out.size
      have HXz := hid (HX.out.below HBo8.out)
      clear hb8 HSa HBw7
      go_wp2_with fail
      go_loopw [13, 79] (fun v u wr => ∃ (k : Nat) (a2 : Option Addr) (c2 : Nat), k ≤ len1 ∧ u = i64 k ∧ v = .slice a2 k c2 ∧ Hid (wr.ownsRow w8.heap.size 55 4 (.slice a2 k c2) k (ocn (X.take k))) ∧ Hid (Below w8.heap.size w8 wr)) (fun _ u _ => len1 - (intOf u).toNat)
      case atStart => exact ⟨0, none, 0, by omega, rfl, rfl, World.ownsRow_nil _ _ _ _, Below.refl _ _⟩
      case round =>
        obtain ⟨k2, a2, c2, hk2, rfl, rfl, HO2, HC2⟩ := hrel
        by_cases hlt2 : k2 < len1
        · have hkI2 : (k2 : Int) < len1 := by omega
          obtain ⟨y, hy⟩ : ∃ y, X[k2]? = some y := ⟨_, List.getElem?_eq_getElem (by rw [← HX1.out]; exact hlt2)⟩
          obtain ⟨g0, o0, hg0, hgl, p0, p1, p2, p3⟩ := (HXz.out.below HC2.out) k2 y hy
          subst hg0
          have HCx : Hid (Below w8.heap.size w8 (wr.alloc (oO y 54))) := HC2.out.alloc HC2.out.size _
          have HOx := hid (HO2.out.alloc (oO y 54))
          have HOn := hid (open_ok (wr.alloc (oO y 54)) y)
          have HTk : Hid (X.take (k2 + 1) = X.take k2 ++ [y]) := takeL hy
          clear hy HO2 HC2
          go_wp2_with fail
          refine HOn.out.mono ?_
          rintro e v7 ⟨rfl, hb7⟩
          have HC7 : Hid (Below w8.heap.size w8 v7) := HCx.out.trans (hb7.mono HCx.out.size)
          have hown7 := own_keep1 HOx.out fun q hq => hb7.block q (HOx.out.lt q hq).2
          obtain ⟨a3, c3, v8, hrun, hown8, hfr8, _, _⟩ := app_far (te := 55) uDo iDo rfl (by omega) (by omega) (V := v7) hown7 (oC y) rfl (oC_one _) (by omega) HC7.out.size
          have HRUN := hid hrun
          have HC8 : Hid (Below w8.heap.size w8 v8) := HC7.out.trans hfr8.below
          have HO8 : Hid (v8.ownsRow w8.heap.size 55 4 (.slice a3 (k2 + 1) c3) (k2 + 1) (ocn (X.take (k2 + 1)))) := by
            rw [HTk.out, ocn_app, ocn_one]
            exact hown8
          clear hb7 hown7 hrun hown8 hfr8 HOn HOx HCx p0 p1 p2 p3
          go_wp2_with (at_builtin; refine wpList_app_run rfl (.tmp 83) (.tmp 86) 27 rfl _ _ rfl rfl 27 rfl _ _ HRUN.out ?_)
          exact ⟨⟨k2 + 1, a3, c3, by omega, by go_num, rfl, HO8, HC8⟩, by simp [intOf]; omega⟩
        · obtain ⟨wq, hwq⟩ : ∃ wq, wq = wr := ⟨_, rfl⟩
          subst hwq
          obtain rfl : len1 = k2 := by omega
          have hE : X.take len1 = X := List.take_of_length_le (by rw [← HX1.out]; omega)
          have hown := HO2.out
          rw [hE] at hown
          have hcq := own_capK hown
          have HRq : Hid (Rd4 wq a2 X) := Rd4.own (by rw [← HX1.out]; exact hown)
          have HBq := hid HC2.out
          clear hE hown HO2 HC2
          obtain ⟨aA, haA⟩ : ∃ aA, aA = a2 := ⟨_, rfl⟩
          obtain ⟨cA, hcAe⟩ : ∃ cA, cA = c2 := ⟨_, rfl⟩
          subst haA hcAe
          have hcA := hcq
          have HRa := HRq
          have HBo9 : Hid (Below w.heap.size w wq) := HBo8.out.trans (HBq.out.mono hs8)
          have HBw9 : Hid (Below t w wq) := HBw8.out.trans (HBq.out.mono ht8)
          have hs9 : w.heap.size ≤ wq.heap.size := HBo9.out.size
          have ht9 : t ≤ wq.heap.size := Nat.le_trans ht8 HBq.out.size
          obtain ⟨wz, hwz⟩ : ∃ wz, wz = wq := ⟨_, rfl⟩
          subst hwz
          have HYz := hid (HY.out.below HBo9.out)
          clear HBo8 HBw8 HBq HRq hcq HXz
          go_wp2_with fail
          go_loopw [14, 91] (fun v u wr => ∃ (k : Nat) (a2 : Option Addr) (c2 : Nat), k ≤ len2 ∧ u = i64 k ∧ v = .slice a2 k c2 ∧ Hid (wr.ownsRow wz.heap.size 57 3 (.slice a2 k c2) k (lcn (Y.take k))) ∧ Hid (Below wz.heap.size wz wr)) (fun _ u _ => len2 - (intOf u).toNat)
          case atStart => exact ⟨0, none, 0, by omega, rfl, rfl, World.ownsRow_nil _ _ _ _, Below.refl _ _⟩
          case round =>
            obtain ⟨k2, a2, c2, hk2, rfl, rfl, HO2, HC2⟩ := hrel
            by_cases hlt2 : k2 < len2
            · have hkI2 : (k2 : Int) < len2 := by omega
              obtain ⟨y, hy⟩ : ∃ y, Y[k2]? = some y := ⟨_, List.getElem?_eq_getElem (by rw [← HY1.out]; exact hlt2)⟩
              obtain ⟨g0, o0, hg0, hgl, p0, p1, p2⟩ := (HYz.out.below HC2.out) k2 y hy
              subst hg0
              have HCx : Hid (Below wz.heap.size wz (wr.alloc (lO y 48))) := HC2.out.alloc HC2.out.size _
              have HOx := hid (HO2.out.alloc (lO y 48))
              have HOn := hid (slot2_ok (wr.alloc (lO y 48)) y)
              have HTk : Hid (Y.take (k2 + 1) = Y.take k2 ++ [y]) := takeL hy
              clear hy HO2 HC2
              go_wp2_with fail
              refine HOn.out.mono ?_
              rintro e v7 ⟨rfl, hb7⟩
              have HC7 : Hid (Below wz.heap.size wz v7) := HCx.out.trans (hb7.mono HCx.out.size)
              have hown7 := own_keep1 HOx.out fun q hq => hb7.block q (HOx.out.lt q hq).2
              obtain ⟨a3, c3, v8, hrun, hown8, hfr8, _, _⟩ := app_far (te := 57) uDl iDl rfl (by omega) (by omega) (V := v7) hown7 (lC y) rfl (lC_one _) (by omega) HC7.out.size
              have HRUN := hid hrun
              have HC8 : Hid (Below wz.heap.size wz v8) := HC7.out.trans hfr8.below
              have HO8 : Hid (v8.ownsRow wz.heap.size 57 3 (.slice a3 (k2 + 1) c3) (k2 + 1) (lcn (Y.take (k2 + 1)))) := by
                rw [HTk.out, lcn_app, lcn_one]
                exact hown8
              clear hb7 hown7 hrun hown8 hfr8 HOn HOx HCx p0 p1 p2
              go_wp2_with (at_builtin; refine wpList_app_run rfl (.tmp 95) (.tmp 98) 28 rfl _ _ rfl rfl 28 rfl _ _ HRUN.out ?_)
              exact ⟨⟨k2 + 1, a3, c3, by omega, by go_num, rfl, HO8, HC8⟩, by simp [intOf]; omega⟩
            · obtain ⟨wq, hwq⟩ : ∃ wq, wq = wr := ⟨_, rfl⟩
              subst hwq
              obtain rfl : len2 = k2 := by omega
              have hE : Y.take len2 = Y := List.take_of_length_le (by rw [← HY1.out]; omega)
              have hown := HO2.out
              rw [hE] at hown
              have hcq := own_capK hown
              have HRq : Hid (Rd3 wq a2 Y) := Rd3.own (by rw [← HY1.out]; exact hown)
              have HBq := hid HC2.out
              clear hE hown HO2 HC2
              have HRa9 := hid (HRa.out.below HBq.out)
              have HX9 := hid (HX.out.below (HBo9.out.trans (HBq.out.mono hs9)))
              have HY9 := hid (HY.out.below (HBo9.out.trans (HBq.out.mono hs9)))
              have HB9 : Hid (Below t w wq) := HBw9.out.trans (HBq.out.mono ht9)
              have ht10 : t ≤ wq.heap.size := Nat.le_trans ht9 HBq.out.size
              have HLd := hid (load_ok wq a1 a2' cap1 cap2 X Y (by rw [← HX1.out]; omega) (by rw [← HY1.out]; omega) HX9.out HY9.out)
              have HDr : Hid (∀ W, Below wq.heap.size wq W → _) := fun W hW => dright_ok W aA a2 cA c2 X Y (by rw [← HX1.out]; omega) (by rw [← HY1.out]; omega) (by rw [← HX1.out]; exact hcA) (HRa9.out.below hW) (HRq.out.below hW)
              rw [← HX1.out, ← HY1.out] at HLd HDr
              clear HRa9 HX9 HY9 HRq HBq HRa HX HY HBo9 HBw9
              by_cases hRi : RightD X Y
              · have HRi := hid hRi
                clear hRi
                go_wp2_with fail
                refine HLd.out.mono ?_
                rintro e wb ⟨hle, hbb⟩
                rcases hle with ⟨h, _⟩ | ⟨_, t3, A3, V3, rfl, ht3, hJ3, hT3, _, _, hl1, hl2⟩
                · exact absurd HRi.out h
                have HBb : Hid (Below t w wb) := HB9.out.trans (hbb.mono ht10)
                have hsb : wq.heap.size ≤ wb.heap.size := hbb.size
                have HT3 := hid hT3
                have HJ3 := hid hJ3
                have HD3 := hid (HDr.out wb hbb)
                have HGO3 : Hid (∀ W W' e, GotB W W' e (nmL A3 V3) → ∃ ao cap, e = .returned (.slice ao (opL A3 V3).length cap) ∧ Rd4 W' ao (opL A3 V3) ∧ (opL A3 V3).length ≤ cap) := fun W W' e hg => hg.op HJ3.out
                rw [hl1, ← HX1.out] at HGO3
                have HSl3 : Hid (∀ W, Below wb.heap.size wb W → Calls Try.prog 16 #[pq t3] W fun e w' => (∃ ao cap, e = .returned (.slice ao len2 cap)) ∧ Below W.heap.size W w') := fun W hW => (slots_ok W (pq t3) A3 V3 (HT3.out.below hW).tv).mono fun e w' ⟨hg, hb⟩ => ⟨by
                  obtain ⟨ao, cap, he, _⟩ := hg
                  rw [hl2, ← HY1.out] at he
                  exact ⟨ao, cap, he⟩, hb⟩
                have HOp3 : Hid (∀ W, Below wb.heap.size wb W → Calls Try.prog 18 #[pq t3] W fun e w' => GotB W w' e (nmL A3 V3) ∧ Below W.heap.size W w') := fun W hW => opens_ok W (pq t3) A3 V3 (HT3.out.below hW).tv HJ3.out.sml
                clear hT3 hJ3 hbb hl1 hl2 HLd HDr HB9
                go_wp2_with fail
                refine HD3.out.mono ?_
                rintro e wc ⟨he, hbc⟩
                obtain rfl := right_true HRi.out he
                have HBc : Hid (Below t w wc) := HBb.out.trans (hbc.mono (by omega))
                have hsc : wb.heap.size ≤ wc.heap.size := hbc.size
                have HOpc := hid (HOp3.out wc hbc)
                have HBbc : Hid (Below wb.heap.size wb wc) := hbc
                clear he hbc HD3 HOp3 HBb
                go_wp2_with fail
                refine HOpc.out.mono ?_
                rintro e wd ⟨hgd, hbd⟩
                obtain ⟨aO3, cO3, rfl, _, hcO3⟩ := HGO3.out _ _ _ hgd
                have HBd : Hid (Below t w wd) := HBc.out.trans (hbd.mono (by omega))
                have HBbd : Hid (Below wb.heap.size wb wd) := HBbc.out.trans (hbd.mono hsc)
                have hsd : wc.heap.size ≤ wd.heap.size := hbd.size
                have HSld := hid (HSl3.out wd HBbd.out)
                clear hgd hbd HOpc HGO3 HSl3 HBbc HBc
                go_wp2_with fail
                refine HSld.out.mono ?_
                rintro e we ⟨⟨aS3, cS3, rfl⟩, hbe⟩
                have HBe : Hid (Below t w we) := HBd.out.trans (hbe.mono (by omega))
                have hse : wd.heap.size ≤ we.heap.size := hbe.size
                have HNe := hid (nine_ok we)
                clear hbe HSld HBd
                go_wp2_with fail
                refine HNe.out.mono ?_
                rintro e wf ⟨rfl, hbf⟩
                have HBf : Hid (Below t w wf) := HBe.out.trans (hbf.mono (by omega))
                clear hbf HNe
                go_wp2_with fail
                go_ret
                exact ⟨rfl, HBf.out⟩
              · have HRi := hid hRi
                clear hRi
                go_wp2_with fail
                refine HLd.out.mono ?_
                rintro e wb ⟨hle, hbb⟩
                rcases hle with ⟨_, rfl⟩ | ⟨h, _⟩
                rotate_left
                · exact absurd h HRi.out
                have HBb : Hid (Below t w wb) := HB9.out.trans (hbb.mono ht10)
                have hsb : wq.heap.size ≤ wb.heap.size := hbb.size
                have HD3 := hid (HDr.out wb hbb)
                clear hbb HLd HDr HB9
                go_wp2_with fail
                refine HD3.out.mono ?_
                rintro e wc ⟨he, hbc⟩
                obtain rfl := right_false HRi.out he
                have HBc : Hid (Below t w wc) := HBb.out.trans (hbc.mono (by omega))
                have hsc : wb.heap.size ≤ wc.heap.size := hbc.size
                have HNe := hid (nine_ok wc)
                clear he hbc HD3 HBb
                go_wp2_with fail
                refine HNe.out.mono ?_
                rintro e wf ⟨rfl, hbf⟩
                have HBf : Hid (Below t w wf) := HBc.out.trans (hbf.mono (by omega))
                clear hbf HNe
                go_wp2_with fail
                go_ret
                exact ⟨rfl, HBf.out⟩
end Go.Proofs.Ytaapiffglfppnaa
