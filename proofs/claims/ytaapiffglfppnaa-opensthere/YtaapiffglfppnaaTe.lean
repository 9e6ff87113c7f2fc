/- OpensThere's walk; no statement is proved in this text. -/
import Derived.Test.YtaapiffglfppnaaSt
import Derived.Test.YtaapiffglfppnaaRg
namespace Go.Proofs.Ytaapiffglfppnaa
open Go.ChangeShapes Go.WideShapes Go.ChangeAt Go.RowKit Go.Deep
attribute [local go_sem ↓] Go.wp_at_zero Go.wp_at_succ

theorem pw_take {α : Type} {R : α → α → Prop} : ∀ {L : List α} {k : Nat} {x : α}, L.Pairwise R → L[k]? = some x → ∀ y ∈ L.take k, R y x
  | [], _, _, _, h, _, _ => by simp at h
  | z :: L, 0, _, _, _, y, hy => by simp at hy
  | z :: L, k + 1, x, hp, h, y, hy => by
    rw [List.pairwise_cons] at hp
    rw [List.take_succ_cons] at hy
    rcases List.mem_cons.1 hy with rfl | hy
    · exact hp.1 x (List.mem_of_getElem? (by simpa using h))
    · exact pw_take hp.2 (by simpa using h) y hy
theorem places_pw : places.Pairwise lexN := by unfold lexN; decide +kernel
theorem sl_pw (A : Tab) (V : Nat → Op4) : (slL A V).Pairwise fun a b => lt2 (pk a) (pk b) := by
  rw [slL_eq, List.pairwise_filterMap]
  refine places_pw.imp fun {a b} hab s hs t ht => ?_
  obtain ⟨_, _, rfl⟩ := slX_some (by simpa using hs)
  obtain ⟨_, _, rfl⟩ := slX_some (by simpa using ht)
  unfold lexN at hab
  unfold lt2 pk
  simp only
  omega
/-- Objects and slots of a table are such as the document asks. -/
theorem right_op {A : Tab} {V : Nat → Op4} (h : Jn A V) : RightD (opL A V) (slL A V) := by
  refine ⟨fun k x hx => ?_, fun k s hs => ?_, ?_⟩
  · have hm := List.mem_of_getElem? hx
    obtain ⟨r, g, a, hr, hg, ha, rfl⟩ := mem_nm.1 ((mem_op h).1 hm)
    have h1 := h.sml r g a hr hg ha
    refine ⟨by omega, List.find?_eq_none.2 fun y hy hk => ?_, h.ok r g a hr hg ha⟩
    have h2 := pw_take (srt_op A V) hx y hy
    have h3 := ko_iff.1 hk
    omega
  · have hm := List.mem_of_getElem? hs
    obtain ⟨r, g, a, hr, hg, ha, rfl⟩ := mem_sl.1 hm
    refine ⟨by simp only; omega, by simp only; omega, List.find?_eq_none.2 fun y hy hk => ?_, fun e => ?_⟩
    · have h2 := pw_take (sl_pw A V) hs y hy
      have h3 := kp_iff.1 hk
      unfold lt2 pk at h2
      simp only at h2 h3
      omega
    · have h2 := op_find h hr hg ha
      simp only at e
      rw [e] at h2
      cases h2
  · rw [sw_op h fun r g a hr hg ha => ⟨r, g, hr, hg, ha⟩]
theorem right_true {O : List Op4} {S : List Sl3} {e : Ending} (h : RightD O S) (he : RightE O S e) : e = .returned (.bool true) := by
  obtain ⟨v, rfl, hv⟩ := he
  rw [hv.2 h]
theorem right_false {O : List Op4} {S : List Sl3} {e : Ending} (h : ¬ RightD O S) (he : RightE O S e) : e = .returned (.bool false) := by
  obtain ⟨v, rfl, hv⟩ := he
  cases v with
  | true => exact absurd (hv.1 rfl) h
  | false => rfl
theorem GotB.op {w w' : World} {e : Ending} {A : Tab} {V : Nat → Op4} (h : Jn A V) (hg : GotB w w' e (nmL A V)) : ∃ ao cap, e = .returned (.slice ao (opL A V).length cap) ∧ Rd4 w' ao (opL A V) ∧ (opL A V).length ≤ cap := by
  obtain ⟨ao, cap, M, rfl, hp, hs, hR, hc⟩ := hg
  obtain rfl := opens_eq h hp hs
  exact ⟨ao, cap, rfl, hR, hc⟩
/-- A table in which the first processes have nothing. -/
def Emp (W : World) (t p : Nat) : Prop := ∃ A V, Jn A V ∧ Tg W t A V ∧ ∀ r g, r < p → r < 6 → g < 6 → A r g = none
theorem emp_drop {W : World} {t p : Nat} (h : Emp W t p) : Calls Try.prog 22 #[pq t, i64 ((p : Int) + 1)] W fun e w' => (∃ n : Nat, e = .returned (i64 n)) ∧ Emp w' t (p + 1) ∧ Touch t W w' := by
  obtain ⟨A, V, hJ, hT, hE⟩ := h
  refine (drop_ok W t A V ((p : Int) + 1) hT).mono fun e w' ⟨he, hT', ho⟩ => ⟨⟨_, he⟩, ⟨_, V, hJ.sub (drK_sub A _ 6), hT', fun r g hr hr6 hg => ?_⟩, ho⟩
  unfold drK
  by_cases hrp : r = p
  · rw [if_pos ⟨by omega, hg⟩]
  · rw [if_neg fun hc => hrp (by omega)]
    exact hE r g (by omega) hr6 hg
theorem emp_nm {A : Tab} {V : Nat → Op4} {p : Nat} (h6 : 6 ≤ p) (hE : ∀ r g, r < p → r < 6 → g < 6 → A r g = none) : nmL A V = [] := by
  refine List.eq_nil_iff_forall_not_mem.2 fun x hx => ?_
  obtain ⟨r, g, a, hr, hg, ha, _⟩ := mem_nm.1 hx
  rw [hE r g (by omega) hr hg] at ha
  cases ha
theorem emp_opens {W : World} {t p : Nat} (h6 : 6 ≤ p) (h : Emp W t p) : Calls Try.prog 18 #[pq t] W fun e w' => (∃ ao cap, e = .returned (.slice ao 0 cap)) ∧ Below W.heap.size W w' := by
  obtain ⟨A, V, hJ, hT, hE⟩ := h
  refine (opens_ok W (pq t) A V hT.tv hJ.sml).mono fun e w' ⟨hg, hb⟩ => ⟨?_, hb⟩
  obtain ⟨ao, cap, M, rfl, hp, _, _, _⟩ := hg
  rw [emp_nm h6 hE] at hp
  have : M = [] := List.Perm.eq_nil hp
  subst this
  exact ⟨ao, cap, rfl⟩
set_option maxRecDepth 100000 in
set_option maxHeartbeats 12800000 in
theorem there_any (w : World) (ao : Option Addr) (len cap : Nat) (f : Nat → Stp) (hlen : len ≤ maxLen) (hS : SSl w ao len f) : Calls Try.prog 5 #[.slice ao len cap] w fun e w' => e = .returned (.bool true) ∧ Below w.heap.size w w' := by
  have hm : (len : Int) ≤ 9223372036854775807 := by unfold maxLen at hlen; omega
  have HSb := hid hS
  have HNw := hid (new_ok w V0)
  obtain ⟨t, ht⟩ : ∃ t, t = w.heap.size := ⟨_, rfl⟩
  have HT := hid ht
  rw [← ht] at HNw ⊢
  clear hS hlen ht
  by_cases h60 : 60 < len
  · have h60' : (60 : Int) < len := by omega
    go_enter Try.func5, Try.ntmps5
    go_wp2_with fail
    refine HNw.out.mono ?_
    rintro e w1 ⟨rfl, ht1, hb1⟩
    have HB1 : Hid (Below t w w1) := hb1
    have hlo1 : t ≤ w1.heap.size := Nat.le_of_lt ht1.lt
    clear ht1 hb1 HNw
    go_wp2_with fail
    refine (nine_ok w1).mono ?_
    rintro e w2 ⟨rfl, hb2⟩
    have HB2 : Hid (Below t w w2) := HB1.out.trans (hb2.mono hlo1)
    clear hb2
    go_wp2_with fail
    go_ret
    exact ⟨rfl, HB2.out⟩
  have h60' : ¬ (60 : Int) < len := by omega
  go_enter Try.func5, Try.ntmps5
  go_wp2_with fail
  refine HNw.out.mono ?_
  rintro e w1 ⟨rfl, ht1, hb1⟩
  have HT1 := hid ht1
  have HB1 : Hid (Below t w w1) := hb1
  clear ht1 hb1 HNw
  have hz30 := zero30
  go_wp2_with fail
  have HW3 : Hid (BsX (w1.alloc (.cells #[.slice none 0 0, .slice none 0 0] 30)) t w1.heap.size w1.heap.size) := bs_new HT1.out
  have HB3 : Hid (Below t w (w1.alloc (.cells #[.slice none 0 0, .slice none 0 0] 30))) := HB1.out.trans ((below_one w1 _).mono (Nat.le_of_lt HT1.out.lt))
  clear hz30
  obtain ⟨r, hr⟩ : ∃ r, r = w1.heap.size := ⟨_, rfl⟩
  rw [← hr] at HW3 ⊢
  generalize w1.alloc (.cells #[.slice none 0 0, .slice none 0 0] 30) = w3 at *
  clear hr HT1 HB1
  go_loopw [31] (fun u wr => ∃ (k : Nat), k ≤ len ∧ u = i64 k ∧ Hid (BsX wr t r r) ∧ Hid (Below t w wr)) (fun u _ => len - (intOf u).toNat)
  case atStart => exact ⟨0, by omega, rfl, HW3, HB3⟩
  case round =>
    obtain ⟨k, hk, rfl, HBo, HBw⟩ := hrel
    clear HW3 HB3
    by_cases hlt : k < len
    · have hkI : (k : Int) < len := by omega
      obtain ⟨b0, of1, rfl, hbl, hr⟩ := (HSb.out.below (HT.out ▸ HBw.out)).at hlt
      obtain ⟨x, hx⟩ : ∃ x, f k = x := ⟨_, rfl⟩
      rw [hx] at hr
      have c0 : wr.cell? ⟨b0, of1 + k * 6, none⟩ = some (i64 x.what) := hr 0 _ rfl
      have c1 : wr.cell? ⟨b0, of1 + k * 6 + 1, none⟩ = some (i64 x.pid) := hr 1 _ rfl
      have c2 : wr.cell? ⟨b0, of1 + k * 6 + 2, none⟩ = some (i64 x.slot) := hr 2 _ rfl
      have c3 : wr.cell? ⟨b0, of1 + k * 6 + 3, none⟩ = some (i64 x.kind) := hr 3 _ rfl
      have c4 : wr.cell? ⟨b0, of1 + k * 6 + 4, none⟩ = some (i64 x.obj) := hr 4 _ rfl
      have c5 : wr.cell? ⟨b0, of1 + k * 6 + 5, none⟩ = some (i64 x.n) := hr 5 _ rfl
      have HBV : Hid (Below t w (wr.alloc (spO x))) := HBw.out.alloc HBo.out.lob _
      have HBoV : Hid (BsX (wr.alloc (spO x)) t r r) := HBo.out.below (below_one wr _)
      have HD := hid (does_ok (wr.alloc (spO x)) t r r x HBoV.out)
      clear hx hr
      go_wp2_with fail
      refine HD.out.mono ?_
      rintro e w5 ⟨rfl, hbo5, hf5⟩
      have HB5 : Hid (Below t w w5) := HBV.out.trans hf5.below
      have HBo5 := hid hbo5
      clear hbo5 hf5 HD c0 c1 c2 c3 c4 c5 HBV HBoV
      obtain ⟨A, V, hbs⟩ := HBo5.out
      have htk : t ≤ w5.heap.size := hbs.lob
      have HBs := hid hbs
      have HJ := hid hbs.jn
      have HOp := hid (opens_ok w5 (pq t) A V hbs.tg.tv hbs.jn.sml)
      have HRt := hid (right_op hbs.jn)
      have HSl : Hid (∀ W, Below w5.heap.size w5 W → Calls Try.prog 16 #[pq t] W fun e w' => GotL W w' e (slL A V) ∧ Below W.heap.size W w') := fun W hW => slots_ok W (pq t) A V (HBs.out.below hW).tg.tv
      have hlO := op_len A V
      have hlS := sl_len A V
      have HGO : Hid (∀ W W' e, GotB W W' e (nmL A V) → ∃ ao cap, e = .returned (.slice ao (opL A V).length cap) ∧ Rd4 W' ao (opL A V) ∧ (opL A V).length ≤ cap) := fun W W' e hg => hg.op HJ.out
      generalize opL A V = O at *
      generalize slL A V = S at *
      obtain ⟨nO, hnO⟩ : ∃ nO, nO = O.length := ⟨_, rfl⟩
      obtain ⟨nS, hnS⟩ : ∃ nS, nS = S.length := ⟨_, rfl⟩
      have HnO := hid hnO
      have HnS := hid hnS
      rw [← hnO] at hlO
      rw [← hnS] at hlS
      clear hbs hnO hnS HBs HJ
      go_wp2_with fail
      refine HOp.out.mono ?_
      rintro e w6 ⟨hg6, hb6⟩
      obtain ⟨aO, cO, rfl, hR6, hc6⟩ := HGO.out _ _ _ hg6
      have HR6 := hid hR6
      have HB6 : Hid (Below w5.heap.size w5 w6) := hb6
      rw [← HnO.out] at hc6 ⊢
      clear hg6 hb6 hR6 HOp HGO
      go_wp2_with fail
      go_loopw [7, 42] (fun v u wr => ∃ (k : Nat) (a2 : Option Addr) (c2 : Nat), k ≤ nO ∧ u = i64 k ∧ v = .slice a2 k c2 ∧ Hid (wr.ownsRow w6.heap.size 55 4 (.slice a2 k c2) k (ocn (O.take k))) ∧ Hid (Below w6.heap.size w6 wr)) (fun _ u _ => nO - (intOf u).toNat)
      case atStart => exact ⟨0, none, 0, by omega, rfl, rfl, World.ownsRow_nil _ _ _ _, Below.refl _ _⟩
      case round =>
        obtain ⟨k2, a2, c2, hk2, rfl, rfl, HO2, HC2⟩ := hrel
        by_cases hlt2 : k2 < nO
        · have hkI2 : (k2 : Int) < nO := by omega
          obtain ⟨y, hy⟩ : ∃ y, O[k2]? = some y := ⟨_, List.getElem?_eq_getElem (by rw [← HnO.out]; exact hlt2)⟩
          obtain ⟨g0, o0, hg0, hgl, p0, p1, p2, p3⟩ := (HR6.out.below HC2.out) k2 y hy
          subst hg0
          have HCx : Hid (Below w6.heap.size w6 (wr.alloc (oO y 54))) := HC2.out.alloc HC2.out.size _
          have HOx := hid (HO2.out.alloc (oO y 54))
          have HOn := hid (open_ok (wr.alloc (oO y 54)) y)
          have HTk : Hid (O.take (k2 + 1) = O.take k2 ++ [y]) := takeL hy
          clear hy HO2 HC2
          go_wp2_with fail
          refine HOn.out.mono ?_
          rintro e w7 ⟨rfl, hb7⟩
          have HC7 : Hid (Below w6.heap.size w6 w7) := HCx.out.trans (hb7.mono HCx.out.size)
          have hown7 := own_keep1 HOx.out fun q hq => hb7.block q (HOx.out.lt q hq).2
          obtain ⟨a3, c3, w8, hrun, hown8, hfr8, _, _⟩ := app_far (te := 55) uDo iDo rfl (by omega) (by omega) (V := w7) hown7 (oC y) rfl (oC_one _) (by omega) HC7.out.size
          have HRUN := hid hrun
          have HC8 : Hid (Below w6.heap.size w6 w8) := HC7.out.trans hfr8.below
          have HO8 : Hid (w8.ownsRow w6.heap.size 55 4 (.slice a3 (k2 + 1) c3) (k2 + 1) (ocn (O.take (k2 + 1)))) := by
            rw [HTk.out, ocn_app, ocn_one]
            exact hown8
          clear hb7 hown7 hrun hown8 hfr8 HOn HOx HCx p0 p1 p2 p3
          go_wp2_with (at_builtin; refine wpList_app_run rfl (.tmp 46) (.tmp 49) 27 rfl _ _ rfl rfl 27 rfl _ _ HRUN.out ?_)
          exact ⟨⟨k2 + 1, a3, c3, by omega, by go_num, rfl, HO8, HC8⟩, by simp [intOf]; omega⟩
        · obtain rfl : k2 = nO := by omega
          obtain ⟨wp, hwp⟩ : ∃ wp, wp = wr := ⟨_, rfl⟩
          subst hwp
          have hE : O.take k2 = O := List.take_of_length_le (by rw [← HnO.out]; omega)
          have hown := HO2.out
          rw [hE] at hown
          have hcO := own_capK hown
          have HRO : Hid (Rd4 wp a2 O) := Rd4.own (by rw [← HnO.out]; exact hown)
          have HB7 : Hid (Below w5.heap.size w5 wp) := HB6.out.trans (HC2.out.mono HB6.out.size)
          have HS7 := hid (HSl.out wp HB7.out)
          clear hE hown HO2 HC2 HR6 HB6 HSl
          go_wp2_with fail
          refine HS7.out.mono ?_
          rintro e w8 ⟨⟨aS, cS, rfl, hown⟩, hb8⟩
          have hcS := own_capK hown
          have HR8 : Hid (Rd3 w8 aS S) := Rd3.own hown
          have HRO8 := hid (HRO.out.below hb8)
          have HB8 : Hid (Below w5.heap.size w5 w8) := HB7.out.trans (hb8.mono HB7.out.size)
          rw [← HnS.out] at hcS ⊢
          clear hown hb8 HRO HB7 HS7
          go_wp2_with fail
          go_loopw [8, 55] (fun v u wr => ∃ (k : Nat) (a4 : Option Addr) (c4 : Nat), k ≤ nS ∧ u = i64 k ∧ v = .slice a4 k c4 ∧ Hid (wr.ownsRow w8.heap.size 57 3 (.slice a4 k c4) k (lcn (S.take k))) ∧ Hid (Below w8.heap.size w8 wr)) (fun _ u _ => nS - (intOf u).toNat)
          case atStart => exact ⟨0, none, 0, by omega, rfl, rfl, World.ownsRow_nil _ _ _ _, Below.refl _ _⟩
          case round =>
            obtain ⟨k3, a4, c4, hk3, rfl, rfl, HO3, HC3⟩ := hrel
            by_cases hlt3 : k3 < nS
            · have hkI3 : (k3 : Int) < nS := by omega
              obtain ⟨y, hy⟩ : ∃ y, S[k3]? = some y := ⟨_, List.getElem?_eq_getElem (by rw [← HnS.out]; exact hlt3)⟩
              obtain ⟨g0, o0, hg0, hgl, p0, p1, p2⟩ := (HR8.out.below HC3.out) k3 y hy
              subst hg0
              have HCx : Hid (Below w8.heap.size w8 (wr.alloc (lO y 48))) := HC3.out.alloc HC3.out.size _
              have HOx := hid (HO3.out.alloc (lO y 48))
              have HOn := hid (slot2_ok (wr.alloc (lO y 48)) y)
              have HTk : Hid (S.take (k3 + 1) = S.take k3 ++ [y]) := takeL hy
              clear hy HO3 HC3
              go_wp2_with fail
              refine HOn.out.mono ?_
              rintro e w9 ⟨rfl, hb9⟩
              have HC9 : Hid (Below w8.heap.size w8 w9) := HCx.out.trans (hb9.mono HCx.out.size)
              have hown9 := own_keep1 HOx.out fun q hq => hb9.block q (HOx.out.lt q hq).2
              obtain ⟨a5, c5, wa, hrun, howna, hfra, _, _⟩ := app_far (te := 57) uDl iDl rfl (by omega) (by omega) (V := w9) hown9 (lC y) rfl (lC_one _) (by omega) HC9.out.size
              have HRUN := hid hrun
              have HCa : Hid (Below w8.heap.size w8 wa) := HC9.out.trans hfra.below
              have HOa : Hid (wa.ownsRow w8.heap.size 57 3 (.slice a5 (k3 + 1) c5) (k3 + 1) (lcn (S.take (k3 + 1)))) := by
                rw [HTk.out, lcn_app, lcn_one]
                exact howna
              clear hb9 hown9 hrun howna hfra HOn HOx HCx p0 p1 p2
              go_wp2_with (at_builtin; refine wpList_app_run rfl (.tmp 59) (.tmp 62) 28 rfl _ _ rfl rfl 28 rfl _ _ HRUN.out ?_)
              exact ⟨⟨k3 + 1, a5, c5, by omega, by go_num, rfl, HOa, HCa⟩, by simp [intOf]; omega⟩
            · obtain rfl : k3 = nS := by omega
              obtain ⟨wq, hwq⟩ : ∃ wq, wq = wr := ⟨_, rfl⟩
              subst hwq
              have hE : S.take k3 = S := List.take_of_length_le (by rw [← HnS.out]; omega)
              have hown := HO3.out
              rw [hE] at hown

              have HRS : Hid (Rd3 wq a4 S) := Rd3.own (by rw [← HnS.out]; exact hown)
              have HRO9 := hid (HRO8.out.below HC3.out)
              have HB9 : Hid (Below w5.heap.size w5 wq) := HB8.out.trans (HC3.out.mono HB8.out.size)
              have HD9 := hid (dright_ok wq a2 a4 c2 c4 O S (by rw [← HnO.out]; omega) (by rw [← HnS.out]; omega) (by rw [← HnO.out]; exact hcO) HRO9.out HRS.out)
              rw [← HnO.out, ← HnS.out] at HD9
              clear hE hown HO3 HC3 HR8 HB8 HRO8 HRS HRO9
              go_wp2_with fail
              refine HD9.out.mono ?_
              rintro e wa ⟨he, hba⟩
              obtain rfl := right_true HRt.out he
              have HBa : Hid (Below w5.heap.size w5 wa) := HB9.out.trans (hba.mono HB9.out.size)
              have HBoa : Hid (BsX wa t r r) := HBo5.out.below HBa.out
              have HBwa : Hid (Below t w wa) := HB5.out.trans (HBa.out.mono htk)
              clear he hba HD9 HB9
              go_wp2_with fail
              exact ⟨⟨k + 1, by omega, by go_num, HBoa, HBwa⟩, by simp [intOf]; omega⟩
    · have HE0 : Hid (Emp wr t 0) := by
        obtain ⟨A, V, h⟩ := HBo.out
        exact ⟨A, V, h.jn, h.tg, fun _ _ h0 => absurd h0 (Nat.not_lt_zero _)⟩
      have hto : t ≤ wr.heap.size := HBo.out.lob
      clear HBo
      go_wp2_with fail
      go_loopw [13] (fun u wr => ∃ (p : Nat), p ≤ 6 ∧ u = i64 ((p : Int) + 1) ∧ Hid (Emp wr t p) ∧ Hid (Below t w wr) ∧ t ≤ wr.heap.size) (fun u _ => 7 - (intOf u).toNat)
      case atStart => exact ⟨0, by omega, rfl, HE0, HBw, hto⟩
      case round =>
        obtain ⟨p, hp, rfl, HE, HBp, htp⟩ := hrel
        clear HE0 HBw
        by_cases hlt6 : p < 6
        · have hpI : (p : Int) + 1 < 7 := by omega
          have hpJ : (0 : Int) ≤ p := by omega
          have HDr := hid (emp_drop HE.out)
          clear HE
          go_wp2_with fail
          refine HDr.out.mono ?_
          rintro e w2 ⟨⟨n, rfl⟩, hE2, hT2⟩
          have HE2 := hid hE2
          have HB2 : Hid (Below t w w2) := HBp.out.trans (hT2.below (Nat.le_refl _) htp)
          have ht2 : t ≤ w2.heap.size := Nat.le_trans htp hT2.size
          clear hE2 hT2 HDr
          go_wp2_with fail
          exact ⟨⟨p + 1, by omega, by go_num, HE2, HB2, ht2⟩, by simp [intOf]; omega⟩
        · obtain rfl : p = 6 := by omega
          have HOp := hid (emp_opens (Nat.le_refl 6) HE.out)
          clear HE
          go_wp2_with fail
          refine HOp.out.mono ?_
          rintro e w2 ⟨⟨a1, c1, rfl⟩, hb2⟩
          have HB2 : Hid (Below t w w2) := HBp.out.trans (hb2.mono htp)
          have ht2 : t ≤ w2.heap.size := Nat.le_trans htp hb2.size
          have HN := hid (nine_ok w2)
          clear hb2 HOp
          go_wp2_with fail
          refine HN.out.mono ?_
          rintro e w3 ⟨rfl, hb3⟩
          have HB3 : Hid (Below t w w3) := HB2.out.trans (hb3.mono ht2)
          clear hb3 HN
          go_wp2_with fail
          go_ret
          exact ⟨rfl, HB3.out⟩
end Go.Proofs.Ytaapiffglfppnaa
