/- OpensOne's walk; no statement is proved in this text. -/
import Derived.Test.YtaapiffglfppnaaSt
namespace Go.Proofs.Ytaapiffglfppnaa
open Go.ChangeShapes Go.WideShapes Go.ChangeAt Go.RowKit Go.Deep
attribute [local go_sem ↓] Go.wp_at_zero Go.wp_at_succ

/-- A table whose objects have the IDs that they had. -/
structure Ob (W : World) (t : Nat) (A : Tab) (V V' : Nat → Op4) : Prop where
  jn : Jn A V'
  tg : Tg W t A V'
  id : ∀ a, (V' a).1 = (V a).1
theorem Ob.below {W W' : World} {t : Nat} {A : Tab} {V V' : Nat → Op4} (h : Ob W t A V V') (hb : Below W.heap.size W W') : Ob W' t A V V' := ⟨h.jn, h.tg.below hb, h.id⟩
theorem Ob.sl {W : World} {t : Nat} {A : Tab} {V V' : Nat → Op4} (h : Ob W t A V V') : slL A V' = slL A V := by
  unfold slL
  refine List.map_congr_left fun y _ => ?_
  unfold slF
  rw [h.id]
theorem ob_seek {t : Nat} {A : Tab} {V V' : Nat → Op4} {W : World} {u g a : Nat} {off : Int} (h : Ob W t A V V') (hu : u < 6) (hg : g < 6) (hA : A u g = some a) : Calls Try.prog 17 #[pq t, i64 ((u : Int) + 1), i64 g, i64 off] W (fun e w' => e = .returned (i64 1) ∧ Below W.heap.size W w') ∨ Calls Try.prog 17 #[pq t, i64 ((u : Int) + 1), i64 g, i64 off] W fun e w' => e = .returned (i64 0) ∧ Ob w' t A V (mvV V' a off) ∧ Fr t [75, 54] W w' := by
  have ha : atA A ((u : Int) + 1) g = some a := by rw [atA_in A u g hu hg]; exact hA
  cases hb : openB ((V' a).1, (V' a).2.1, (V' a).2.2.1, off) with
  | false => exact .inl (seek_arg W t A V' _ _ off a h.tg ha hb)
  | true => exact .inr ((seek_yes W t A V' u g off a h.tg hu hg hA hb).mono fun e w' ⟨he, hT, hto⟩ => ⟨he, ⟨h.jn.mv a off, hT, fun b => by rw [mv_id, h.id]⟩, (Fr.of_touch (ts := [75, 54]) hto (h.tg.obj u g a hu hg hA).2 rfl (Nat.le_refl _)).lower (Nat.le_of_lt (h.tg.obj u g a hu hg hA).1)⟩)
set_option maxRecDepth 100000 in
set_option maxHeartbeats 12800000 in
theorem one_any (w : World) (ao : Option Addr) (len cap : Nat) (off : Int) (f : Nat → Stp) (hlen : len ≤ maxLen) (hS : SSl w ao len f) : Calls Try.prog 4 #[.slice ao len cap, i64 off] w fun e w' => e = .returned (.bool true) ∧ Below w.heap.size w w' := by
  have hm : (len : Int) ≤ 9223372036854775807 := by unfold maxLen at hlen; omega
  have HSb := hid hS
  have HNw := hid (new_ok w V0)
  obtain ⟨t, ht⟩ : ∃ t, t = w.heap.size := ⟨_, rfl⟩
  have HT := hid ht
  rw [← ht] at HNw ⊢
  clear hS hlen ht
  by_cases h60 : 60 < len
  · have h60' : (60 : Int) < len := by omega
    go_enter Try.func4, Try.ntmps4
    go_wp2_with fail
    refine HNw.out.mono ?_
    rintro e w1 ⟨rfl, ht1, hb1⟩
    have HB1 : Hid (Below t w w1) := hb1
    have hlo1 : t ≤ w1.heap.size := Nat.le_of_lt ht1.lt
    clear ht1 hb1 HNw
    go_wp2_with fail
    refine (nine_ok w1).mono ?_
    rintro e w2 ⟨rfl, hb2⟩
    have HB2 : Hid (Below t w w2) := HB1.out.trans (hb2.mono hlo1)
    clear hb2
    go_wp2_with fail
    go_ret
    exact ⟨rfl, HB2.out⟩
  have h60' : ¬ (60 : Int) < len := by omega
  go_enter Try.func4, Try.ntmps4
  go_wp2_with fail
  refine HNw.out.mono ?_
  rintro e w1 ⟨rfl, ht1, hb1⟩
  have HT1 := hid ht1
  have HB1 : Hid (Below t w w1) := hb1
  clear ht1 hb1 HNw
  have hz30 := zero30
  go_wp2_with fail
  have HW3 : Hid (BsX (w1.alloc (.cells #[.slice none 0 0, .slice none 0 0] 30)) t w1.heap.size w1.heap.size) := bs_new HT1.out
  have HB3 : Hid (Below t w (w1.alloc (.cells #[.slice none 0 0, .slice none 0 0] 30))) := HB1.out.trans ((below_one w1 _).mono (Nat.le_of_lt HT1.out.lt))
  clear hz30
  obtain ⟨r, hr⟩ : ∃ r, r = w1.heap.size := ⟨_, rfl⟩
  rw [← hr] at HW3 ⊢
  generalize w1.alloc (.cells #[.slice none 0 0, .slice none 0 0] 30) = w3 at *
  clear hr HT1 HB1
  go_loopw [32] (fun u wr => ∃ (k : Nat), k ≤ len ∧ u = i64 k ∧ Hid (BsX wr t r r) ∧ Hid (Below t w wr)) (fun u _ => len - (intOf u).toNat)
  case atStart => exact ⟨0, by omega, rfl, HW3, HB3⟩
  case round =>
    obtain ⟨k, hk, rfl, HBo, HBw⟩ := hrel
    clear HW3 HB3
    by_cases hlt : k < len
    · have hkI : (k : Int) < len := by omega
      obtain ⟨b0, of1, rfl, hbl, hr⟩ := (HSb.out.below (HT.out ▸ HBw.out)).at hlt
      obtain ⟨x, hx⟩ : ∃ x, f k = x := ⟨_, rfl⟩
      rw [hx] at hr
      have c0 : wr.cell? ⟨b0, of1 + k * 6, none⟩ = some (i64 x.what) := hr 0 _ rfl
      have c1 : wr.cell? ⟨b0, of1 + k * 6 + 1, none⟩ = some (i64 x.pid) := hr 1 _ rfl
      have c2 : wr.cell? ⟨b0, of1 + k * 6 + 2, none⟩ = some (i64 x.slot) := hr 2 _ rfl
      have c3 : wr.cell? ⟨b0, of1 + k * 6 + 3, none⟩ = some (i64 x.kind) := hr 3 _ rfl
      have c4 : wr.cell? ⟨b0, of1 + k * 6 + 4, none⟩ = some (i64 x.obj) := hr 4 _ rfl
      have c5 : wr.cell? ⟨b0, of1 + k * 6 + 5, none⟩ = some (i64 x.n) := hr 5 _ rfl
      have HBV : Hid (Below t w (wr.alloc (spO x))) := HBw.out.alloc HBo.out.lob _
      have HBoV : Hid (BsX (wr.alloc (spO x)) t r r) := HBo.out.below (below_one wr _)
      have HD := hid (does_ok (wr.alloc (spO x)) t r r x HBoV.out)
      clear hx hr
      go_wp2_with fail
      refine HD.out.mono ?_
      rintro e w5 ⟨rfl, hbo5, hf5⟩
      have HB5 : Hid (Below t w w5) := HBV.out.trans hf5.below
      have HBo5 := hid hbo5
      clear hbo5 hf5 HD c0 c1 c2 c3 c4 c5
      go_wp2_with fail
      exact ⟨⟨k + 1, by omega, by go_num, HBo5, HB5⟩, by simp [intOf]; omega⟩
    · obtain ⟨wo, hwo⟩ : ∃ wo, wo = wr := ⟨_, rfl⟩
      subst hwo
      obtain ⟨A, V, hbs⟩ := HBo.out
      have HSl := hid (slots_ok wo (pq t) A V hbs.tg.tv)
      have HOb : Hid (Ob wo t A V V) := ⟨hbs.jn, hbs.tg, fun _ => rfl⟩
      have hlS := sl_len A V
      have HMem : Hid (∀ s ∈ slL A V, ∃ u g a, u < 6 ∧ g < 6 ∧ A u g = some a ∧ s = ((u : Int) + 1, (g : Int), (V a).1)) := fun s hs => mem_sl.1 hs
      have HEq : Hid (∀ W V', Ob W t A V V' → slL A V' = slL A V) := fun _ _ h => h.sl
      generalize slL A V = S at *
      have hto : t ≤ wo.heap.size := Nat.le_of_lt hbs.tg.lt
      clear hbs HBo
      go_wp2_with fail
      refine HSl.out.mono ?_
      rintro e w4 ⟨⟨aL, cL, rfl, hown⟩, hb⟩
      have hcL := own_capK hown
      have HOw : Hid (w4.ownsRow wo.heap.size 48 3 (.slice aL S.length cL) S.length (lcn S)) := hown
      have HOb4 : Hid (Ob w4 t A V V) := HOb.out.below hb
      have HB4 : Hid (Below t w w4) := HBw.out.trans (hb.mono hto)
      obtain ⟨M, hM⟩ : ∃ M, M = S.length := ⟨_, rfl⟩
      have HM := hid hM
      rw [← hM] at hlS hcL
      rw [← hM]
      clear hb hown HSl hM HOb
      go_wp2_with fail
      go_loopw [44] (fun u wr => ∃ (k : Nat) (V' : Nat → Op4), k ≤ M ∧ u = i64 k ∧ Hid (Ob wr t A V V') ∧ Hid (wr.ownsRow wo.heap.size 48 3 (.slice aL S.length cL) S.length (lcn S)) ∧ Hid (Below t w wr)) (fun u _ => M - (intOf u).toNat)
      case atStart => exact ⟨0, V, by omega, rfl, HOb4, HOw, HB4⟩
      case round =>
        obtain ⟨k, V', hk, rfl, HO, HOr, HBk⟩ := hrel
        clear HOb4 HOw HB4
        by_cases hlt : k < M
        · obtain ⟨wk, hwk⟩ : ∃ wk, wk = wr := ⟨_, rfl⟩
          subst hwk
          have hkI : (k : Int) < M := by omega
          obtain ⟨s, hs⟩ : ∃ s, S[k]? = some s := ⟨_, List.getElem?_eq_getElem (by rw [← HM.out]; exact hlt)⟩
          obtain ⟨g0, o0, hg0, hgl, p0, p1, p2⟩ := (Rd3.own HOr.out) k s hs
          subst hg0
          obtain ⟨u, g, a, hu, hg, hA, hse⟩ := HMem.out s (List.mem_of_getElem? hs)
          subst hse
          have htk : t ≤ wk.heap.size := Nat.le_of_lt HO.out.tg.lt
          have HBx : Hid (Below t w (wk.alloc (lO ((u : Int) + 1, (g : Int), (V a).1) 48))) := HBk.out.alloc htk _
          have HOx : Hid (Ob (wk.alloc (lO ((u : Int) + 1, (g : Int), (V a).1) 48)) t A V V') := HO.out.below (below_one wk _)
          have HXx := hid (heap_last wk (lO ((u : Int) + 1, (g : Int), (V a).1) 48))
          have HOrx : Hid ((wk.alloc (lO ((u : Int) + 1, (g : Int), (V a).1) 48)).ownsRow wo.heap.size 48 3 (.slice (some ⟨g0, o0, none⟩) S.length cL) S.length (lcn S)) := HOr.out.alloc _
          clear hs
          rcases ob_seek (off := off) HOx.out hu hg hA with hC | hC
          · have HC := hid hC
            clear hC
            go_wp2_with fail
            refine HC.out.mono ?_
            rintro e w5 ⟨rfl, hb⟩
            have HB5 : Hid (Below t w w5) := HBx.out.trans (hb.mono (Nat.le_of_lt HOx.out.tg.lt))
            have HO5 := hid (HOx.out.below hb)
            have HOr5 : Hid (w5.ownsRow wo.heap.size 48 3 (.slice (some ⟨g0, o0, none⟩) S.length cL) S.length (lcn S)) := own_keep1 HOrx.out fun q hq => hb.block q (HOrx.out.lt q hq).2
            clear hb HC p0 p1 p2
            go_wp2_with fail
            exact ⟨⟨k + 1, V', by omega, by go_num, HO5, HOr5, HB5⟩, by simp [intOf]; omega⟩
          · have HC := hid hC
            clear hC
            go_wp2_with fail
            refine HC.out.mono ?_
            rintro e w5 ⟨rfl, hO5, hf5⟩
            have HB5 : Hid (Below t w w5) := HBx.out.trans hf5.below
            have HO5 := hid hO5
            have HOr5 : Hid (w5.ownsRow wo.heap.size 48 3 (.slice (some ⟨g0, o0, none⟩) S.length cL) S.length (lcn S)) := own_keep HOrx.out fun q C hq => hf5.kept q _ hq rfl
            have HX5 : Hid (w5.heap[wk.heap.size]? = some (lO ((u : Int) + 1, (g : Int), (V a).1) 48)) := hf5.kept _ _ HXx.out rfl
            have hSl := slots_ok w5 (pq t) A (mvV V' a off) hO5.tg.tv
            rw [HEq.out w5 _ hO5] at hSl
            have HSl := hid hSl
            clear hO5 hf5 HC p0 p1 p2 hSl
            go_wp2_with fail
            refine HSl.out.mono ?_
            rintro e w6 ⟨⟨aN, cN, rfl, hown⟩, hb⟩
            have hcN := own_capK hown
            have HRn : Hid (Rd3 w6 aN S) := Rd3.own hown
            have hlo5 : t ≤ w5.heap.size := Nat.le_of_lt HO5.out.tg.lt
            have HB6 : Hid (Below t w w6) := HB5.out.trans (hb.mono hlo5)
            have HO6 := hid (HO5.out.below hb)
            have HX6 := hid (blk_below HX5.out hb)
            have HOr6 : Hid (w6.ownsRow wo.heap.size 48 3 (.slice (some ⟨g0, o0, none⟩) S.length cL) S.length (lcn S)) := own_keep1 HOr5.out fun q hq => hb.block q (HOr5.out.lt q hq).2
            have HB66 : Hid (Below w6.heap.size w6 w6) := Below.refl _ _
            have hlo6 : t ≤ w6.heap.size := Nat.le_of_lt HO6.out.tg.lt
            rw [← HM.out] at hcN
            rw [← HM.out]
            clear hb hown HSl HB5 HO5 HOr5 HX5 hlo5
            go_wp2_with fail
            go_loopw [59] (fun v wr => ∃ (j : Nat), j ≤ M ∧ v = i64 j ∧ Hid (Below w6.heap.size w6 wr)) (fun v _ => M - (intOf v).toNat)
            case atStart => exact ⟨0, by omega, rfl, HB66⟩
            case round =>
              obtain ⟨j, hj, rfl, HBj⟩ := hrel
              clear HB66
              by_cases hjt : j < M
              · have hjI : (j : Int) < M := by omega
                obtain ⟨s2, hs2⟩ : ∃ s2, S[j]? = some s2 := ⟨_, List.getElem?_eq_getElem (by rw [← HM.out]; exact hjt)⟩
                obtain ⟨g1, o1, hg1, hgl1, p0, p1, p2⟩ := (HRn.out.below HBj.out) j s2 hs2
                subst hg1
                obtain ⟨u2, g2, a2, hu2, hg2, hA2, hse⟩ := HMem.out s2 (List.mem_of_getElem? hs2)
                subst hse
                have HOj := hid ((HO6.out.below HBj.out).below (below_one wr (lO ((u2 : Int) + 1, (g2 : Int), (V a2).1) 48)))
                have HXj := hid (heap_last wr (lO ((u2 : Int) + 1, (g2 : Int), (V a2).1) 48))
                have HBjx : Hid (Below w6.heap.size w6 (wr.alloc (lO ((u2 : Int) + 1, (g2 : Int), (V a2).1) 48))) := HBj.out.alloc HBj.out.size _
                have HG := hid (get_some (wr.alloc (lO ((u2 : Int) + 1, (g2 : Int), (V a2).1) 48)) (pq t) A (mvV V' a off) ((u2 : Int) + 1) g2 a2 HOj.out.tg.tv (by rw [atA_in A u2 g2 hu2 hg2]; exact hA2))
                have HEo : Hid ((V a2).1 = (V a).1 → (mvV V' a off a2).2.2.2 = off) := fun he => by
                  have h1 : a2 = a := HO.out.jn.inj u2 g2 u g a2 a hu2 hg2 hu hg hA2 hA (by rw [HO.out.id, HO.out.id]; exact he)
                  unfold mvV
                  rw [if_pos h1]
                generalize mvV V' a off a2 = y at *
                clear hs2
                go_wp2_with fail
                refine HG.out.mono ?_
                rintro e w8 ⟨rfl, hb⟩
                have hB8 : Below w6.heap.size w6 w8 := HBjx.out.trans (hb.mono HBjx.out.size)
                have HB8 : Hid (Below w6.heap.size w6 (w8.alloc (enO ((u2 : Int) + 1) g2 y.2.1 y.2.2.1 y.2.2.2 37))) := hB8.alloc hB8.size _
                have hX8 := blk_below HX6.out hB8
                have hXj8 := blk_below HXj.out hb
                obtain ⟨x0, x1, x2⟩ := three_cells hX8
                obtain ⟨z0, z1, z2⟩ := three_cells hXj8
                have hl1 := blk_lt hX8
                have hl2 := blk_lt hXj8
                clear hb HG p0 p1 p2 hX8 hXj8 hB8
                by_cases he : (V a2).1 = (V a).1
                · have q1 : ((V a2).1 == (V a).1) = true := beq_iff_eq.2 he
                  have q2 : (y.2.2.2 == off) = true := beq_iff_eq.2 (HEo.out he)
                  clear he
                  go_wp2_with fail
                  exact ⟨⟨j + 1, by omega, by go_num, HB8⟩, by simp [intOf]; omega⟩
                · have q1 : ((V a2).1 == (V a).1) = false := beq_false_of_ne he
                  clear he
                  go_wp2_with fail
                  exact ⟨⟨j + 1, by omega, by go_num, HB8⟩, by simp [intOf]; omega⟩
              · have HOe := hid (HO6.out.below HBj.out)
                have HOre : Hid (wr.ownsRow wo.heap.size 48 3 (.slice (some ⟨g0, o0, none⟩) S.length cL) S.length (lcn S)) := own_keep1 HOr6.out fun q hq => HBj.out.block q (HOr6.out.lt q hq).2
                have HBe : Hid (Below t w wr) := HB6.out.trans (HBj.out.mono hlo6)
                go_wp2_with fail
                exact ⟨⟨k + 1, mvV V' a off, by omega, by go_num, HOe, HOre, HBe⟩, by simp [intOf]; omega⟩
        · have HN := hid (nine_ok wr)
          have hlo : t ≤ wr.heap.size := Nat.le_of_lt HO.out.tg.lt
          go_wp2_with fail
          refine HN.out.mono ?_
          rintro e w2 ⟨rfl, hb2⟩
          have HB2 : Hid (Below t w w2) := HBk.out.trans (hb2.mono hlo)
          clear hb2 HN
          go_wp2_with fail
          go_ret
          exact ⟨rfl, HB2.out⟩
end Go.Proofs.Ytaapiffglfppnaa
