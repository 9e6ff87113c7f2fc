/- SpansLoad's walk; no statement is proved in this text. -/
import Derived.Test.YtlkcpjefgelcoaaRg
namespace Go.Proofs.Ytlkcpjefgelcoaa
open Go.ChangeShapes Go.WideShapes Go.ChangeAt Go.RowKit Go.Deep
attribute [local go_sem ↓] Go.wp_at_zero Go.wp_at_succ

theorem load_good {w : World} {ao : Option Addr} {cap : Nat} {X : List Sp} (hg : Lg X) (hX : X.length ≤ 1000) (hR : Rd4 w ao X) (hM : ∀ x ∈ X, x.2.1 ≤ 9223372036854775807) : Calls Try.prog 28 #[.slice ao X.length cap] w fun e w' => e = .returned (.tuple #[pq w.heap.size, i64 0]) ∧ Tb w' w.heap.size X ∧ Below w.heap.size w w' :=
  (sload_ok w ao cap X hX hR hM).mono (by
    rintro e w' ⟨h, hb⟩
    rcases h with ⟨_, rfl, hl⟩ | ⟨hn, _⟩
    · exact ⟨rfl, hl, hb⟩
    · exact absurd hg hn)
theorem load_bad {w : World} {ao : Option Addr} {cap : Nat} {X : List Sp} (hg : ¬ Lg X) (hX : X.length ≤ 1000) (hR : Rd4 w ao X) (hM : ∀ x ∈ X, x.2.1 ≤ 9223372036854775807) : Calls Try.prog 28 #[.slice ao X.length cap] w fun e w' => e = .returned (.tuple #[.pointer none, i64 4]) ∧ Below w.heap.size w w' :=
  (sload_ok w ao cap X hX hR hM).mono (by
    rintro e w' ⟨h, hb⟩
    rcases h with ⟨hn, _⟩ | ⟨_, rfl⟩
    · exact absurd hn hg
    · exact ⟨rfl, hb⟩)
theorem sright_b {w : World} {base : Nat} {ao : Option Addr} {cap : Nat} {X : List Sp} {B : Bool} (hg : (Lg X ∧ B = true) ∨ (¬ Lg X ∧ B = false)) (hX : X.length ≤ 1000) (ho : w.ownsRow base 58 4 (.slice ao X.length cap) X.length (scn X)) (hbw : base ≤ w.heap.size) : Calls Try.prog 29 #[.slice ao X.length cap] w fun e w' => e = .returned (.bool B) ∧ Below w.heap.size w w' :=
  (sright_ok w base ao cap X hX ho hbw).mono (by
    rintro e w' ⟨h, hb⟩
    rcases h with ⟨h1, rfl⟩ | ⟨h1, rfl⟩ <;> rcases hg with ⟨h2, rfl⟩ | ⟨h2, rfl⟩
    · exact ⟨rfl, hb⟩
    · exact absurd h1 h2
    · exact absurd h2 h1
    · exact ⟨rfl, hb⟩)
theorem all_24 {L : List Sp} (h : GS L) : (allL L).length ≤ 24 := by
  have := firstA_len (ofL L) h.four 6
  exact this
theorem first_hi {L : List Sp} (h : GS L) : ∀ x ∈ L, x.2.1 ≤ 9223372036854775807 := fun x hx => by have := h.isA hx; omega
set_option maxRecDepth 100000 in
set_option maxHeartbeats 12800000 in
theorem load_any (w : World) (ao : Option Addr) (len cap : Nat) (f : Nat → Stp) (hlen : len ≤ maxLen) (hS : SSl w ao len f) (a1 : Option Addr) (len1 cap1 : Nat) (X : List Sp) (hX : X.length = len1) (hlen1 : len1 ≤ maxLen) (hG : Rd4 w a1 X) (hMX : ∀ x ∈ X, x.2.1 ≤ 9223372036854775807) : Calls Try.prog 5 #[.slice ao len cap, .slice a1 len1 cap1] w fun e w' => e = .returned (.bool true) ∧ Below w.heap.size w w' := by
  have HGX := hid hG
  have HMX := hid hMX
  have HM1 : Hid (len1 = X.length) := hX.symm
  have hm1 : (len1 : Int) ≤ 9223372036854775807 := by unfold maxLen at hlen1; omega
  clear hG hMX hX hlen1
  have hm : (len : Int) ≤ 9223372036854775807 := by unfold maxLen at hlen; omega
  have HSb := hid hS
  have HNw := hid (snew_ok w)
  obtain ⟨t, ht⟩ : ∃ t, t = w.heap.size := ⟨_, rfl⟩
  have HT := hid ht
  rw [← ht] at HNw ⊢
  clear hS hlen ht
  by_cases h60 : 60 < len
  · have h60' : (60 : Int) < len := by omega
    go_enter Try.func5, Try.ntmps5
    go_wp2_with fail
    refine HNw.out.mono ?_
    rintro e w1 ⟨rfl, ht1, hb1⟩
    have HB1 : Hid (Below t w w1) := hb1
    have hlo1 : t ≤ w1.heap.size := Nat.le_of_lt ht1.lt
    clear ht1 hb1 HNw
    go_wp2_with fail
    refine (four_ok w1).mono ?_
    rintro e w2 ⟨rfl, hb2⟩
    have HB2 : Hid (Below t w w2) := HB1.out.trans (hb2.mono hlo1)
    clear hb2
    go_wp2_with fail
    go_ret
    exact ⟨rfl, HB2.out⟩
  have h60' : ¬ (60 : Int) < len := by omega
  by_cases h61 : 60 < len1
  · have h61' : (60 : Int) < len1 := by omega
    go_enter Try.func5, Try.ntmps5
    go_wp2_with fail
    refine HNw.out.mono ?_
    rintro e w1 ⟨rfl, ht1, hb1⟩
    have HB1 : Hid (Below t w w1) := hb1
    have hlo1 : t ≤ w1.heap.size := Nat.le_of_lt ht1.lt
    clear ht1 hb1 HNw
    go_wp2_with fail
    refine (four_ok w1).mono ?_
    rintro e w2 ⟨rfl, hb2⟩
    have HB2 : Hid (Below t w w2) := HB1.out.trans (hb2.mono hlo1)
    clear hb2
    go_wp2_with fail
    go_ret
    exact ⟨rfl, HB2.out⟩
  have h61' : ¬ (60 : Int) < len1 := by omega
  have hXX : X.length ≤ 1000 := by rw [← HM1.out]; omega
  by_cases hGX : Lg X
  · have HG := hid hGX
    clear hGX
    go_enter Try.func5, Try.ntmps5
    go_wp2_with fail
    refine HNw.out.mono ?_
    rintro e w1 ⟨rfl, ht1, hb1⟩
    have HT1 := hid ht1
    have HB1 : Hid (Below t w w1) := hb1
    clear ht1 hb1 HNw
    have hz29 := zero29t
    go_wp2_with fail
    have HW3 : Hid (BsX (w1.alloc (.cells #[.slice none 0 0] 29)) t w1.heap.size w1.heap.size) := ⟨[], GS.nil, HT1.out.below (below_one w1 _), rt_new w1 _ (Nat.le_refl _), HT1.out.lt⟩
    have HB3 : Hid (Below t w (w1.alloc (.cells #[.slice none 0 0] 29))) := HB1.out.trans ((below_one w1 _).mono (Nat.le_of_lt HT1.out.lt))
    clear hz29
    obtain ⟨r, hr⟩ : ∃ r, r = w1.heap.size := ⟨_, rfl⟩
    rw [← hr] at HW3 ⊢
    generalize w1.alloc (.cells #[.slice none 0 0] 29) = w3 at *
    clear hr HT1 HB1
    go_loopw [35] (fun u wr => ∃ (k : Nat), k ≤ len ∧ u = i64 k ∧ Hid (BsX wr t r r) ∧ Hid (Below t w wr)) (fun u _ => len - (intOf u).toNat)
    case atStart => exact ⟨0, by omega, rfl, HW3, HB3⟩
    case round =>
      obtain ⟨k, hk, rfl, HBo, HBw⟩ := hrel
      by_cases hlt : k < len
      · have hkI : (k : Int) < len := by omega
        obtain ⟨b0, off, rfl, hbl, hr⟩ := (HSb.out.below (HT.out ▸ HBw.out)).at hlt
        obtain ⟨x, hx⟩ : ∃ x, f k = x := ⟨_, rfl⟩
        rw [hx] at hr
        have c0 : wr.cell? ⟨b0, off + k * 4, none⟩ = some (i64 x.what) := hr 0 _ rfl
        have c1 : wr.cell? ⟨b0, off + k * 4 + 1, none⟩ = some (i64 x.pid) := hr 1 _ rfl
        have c2 : wr.cell? ⟨b0, off + k * 4 + 2, none⟩ = some (i64 x.fst) := hr 2 _ rfl
        have c3 : wr.cell? ⟨b0, off + k * 4 + 3, none⟩ = some (i64 x.n) := hr 3 _ rfl
        have HBV : Hid (Below t w (wr.alloc (spO x))) := HBw.out.alloc HBo.out.lob _
        have HBoV : Hid (BsX (wr.alloc (spO x)) t r r) := HBo.out.below (below_one wr _)
        have HX : Hid ((wr.alloc (spO x)).heap[wr.heap.size]? = some (spO x)) := heap_last wr _
        clear hx hr
        have HD := hid (does_ok (wr.alloc (spO x)) t r r x HBoV.out)
        go_wp2_with fail
        refine HD.out.mono ?_
        rintro e w5 ⟨rfl, hbo5, hf5⟩
        have HBo5 := hid hbo5
        have HB5 : Hid (Below t w w5) := HBV.out.trans (hf5.below.mono (Nat.le_refl _))
        clear hbo5 hf5
        go_wp2_with fail
        exact ⟨⟨k + 1, by omega, by go_num, HBo5, HB5⟩, by simp [intOf]; omega⟩
      · clear HW3 HB3
        obtain ⟨L, hbo⟩ := HBo.out
        have HBl := hid hbo
        have HGS := hid hbo.gs
        have hA24 := all_24 hbo.gs
        have hll : (allL L).length ≤ 1000 := by omega
        have HA0 := hid (sall_ok wr t L hbo.tb hbo.gs)
        obtain ⟨N, hN⟩ : ∃ N, N = (allL L).length := ⟨_, rfl⟩
        have HN := hid hN
        unfold GotS at HA0
        rw [← hN] at HA0
        clear hbo HBo hN hA24
        go_wp2_with fail
        refine HA0.out.mono ?_
        rintro e w6 ⟨⟨ao6, cap6, rfl, ho6⟩, hb6⟩
        have HB6 : Hid (Below t w w6) := HBw.out.trans (hb6.mono HBl.out.lob)
        have HBl6 := hid (HBl.out.below hb6)
        have HLo := hid (load_good (cap := cap6) (all_lg HGS.out) hll (Rd4.own (by rw [← HN.out]; exact ho6)) (first_hi (all_gs HGS.out)))
        obtain ⟨u, hu⟩ : ∃ u, u = w6.heap.size := ⟨_, rfl⟩
        rw [← hu, ← HN.out] at HLo
        have HU := hid hu
        clear ho6 hb6 HA0 hu
        go_wp2_with fail
        refine HLo.out.mono ?_
        rintro e w7 ⟨rfl, hl7, hb7⟩
        have hb7' : Below w6.heap.size w6 w7 := by rw [← HU.out]; exact hb7
        have HLu7 : Hid (Tb w7 u (allL L)) := hl7
        have HB7 : Hid (Below t w w7) := HB6.out.trans (hb7'.mono HBl6.out.lob)
        have HBl7 := hid (HBl6.out.below hb7')
        have HL2 := hid (load_good (cap := cap1) HG.out hXX (HGX.out.below (by rw [← HT.out]; exact HB7.out)) HMX.out)
        obtain ⟨z, hz⟩ : ∃ z, z = w7.heap.size := ⟨_, rfl⟩
        have HZ := hid hz
        rw [← hz] at HL2
        rw [← HM1.out] at HL2
        clear hl7 hb7 hb7' HLo hz
        go_wp2_with fail
        refine HL2.out.mono ?_
        rintro e w8 ⟨rfl, hl8, hb8⟩
        have HLz8 := hid hl8
        clear hl8
        have hb8' : Below w7.heap.size w7 w8 := by rw [← HZ.out]; exact hb8
        have HLu8 := hid (HLu7.out.below hb8')
        have HB8 : Hid (Below t w w8) := HB7.out.trans (hb8'.mono HBl7.out.lob)
        have HBl8 := hid (HBl7.out.below hb8')
        have HA := hid (sall_ok w8 u (allL L) HLu8.out (all_gs HGS.out))
        rw [all_all HGS.out] at HA
        unfold GotS at HA
        rw [← HN.out] at HA
        clear hb8 hb8' HL2
        go_wp2_with fail
        refine HA.out.mono ?_
        rintro e w9 ⟨⟨ao9, cap9, rfl, ho9⟩, hb9⟩
        have HB9 : Hid (Below t w w9) := HB8.out.trans (hb9.mono HBl8.out.lob)
        have HBl9 := hid (HBl8.out.below hb9)
        have HLz9 := hid (HLz8.out.below hb9)
        have HRf := hid (refs_ok w9 ao9 cap9 (allL L) hll (Rd4.own (by rw [← HN.out]; exact ho9)))
        unfold GotD at HRf
        rw [← HN.out] at HRf
        clear ho9 hb9 HA
        go_wp2_with fail
        refine HRf.out.mono ?_
        rintro e w10 ⟨⟨ao10, cap10, rfl, ho10⟩, hb10⟩
        have HB10 : Hid (Below t w w10) := HB9.out.trans (hb10.mono HBl9.out.lob)
        have HBl10 := hid (HBl9.out.below hb10)
        have HR10 : Hid (Rd4 w10 ao10 (allL L)) := Rd4.own (by rw [← HN.out]; exact ho10)
        have HLz10 := hid (HLz9.out.below hb10)
        have HAr := hid (rsall_ok HBl10.out.rt HGS.out)
        unfold GotD at HAr
        rw [← HN.out] at HAr
        clear ho10 hb10 HRf
        go_wp2_with fail
        refine HAr.out.mono ?_
        rintro e w11 ⟨⟨ao11, cap11, rfl, ho11⟩, hb11⟩
        have HB11 : Hid (Below t w w11) := HB10.out.trans (hb11.mono HBl10.out.lob)
        have HBl11 := hid (HBl10.out.below hb11)
        have HLz11 := hid (HLz10.out.below hb11)
        have HSm := hid (same_ok w11 ao10 ao11 cap10 cap11 (allL L) hll (HR10.out.below hb11) (Rd4.own (by rw [← HN.out]; exact ho11)))
        rw [← HN.out] at HSm
        clear ho11 hb11 HAr
        go_wp2_with fail
        refine HSm.out.mono ?_
        rintro e w12 ⟨rfl, hb12⟩
        have HB12 : Hid (Below t w w12) := HB11.out.trans (hb12.mono HBl11.out.lob)
        have HBl12 := hid (HBl11.out.below hb12)
        have HLz12 := hid (HLz11.out.below hb12)
        have HRX := hid (refs_ok w12 a1 cap1 X hXX (HGX.out.below (by rw [← HT.out]; exact HB12.out)))
        unfold GotD at HRX
        rw [← HM1.out] at HRX
        clear hb12 HSm
        go_wp2_with fail
        refine HRX.out.mono ?_
        rintro e w13 ⟨⟨ao13, cap13, rfl, ho13⟩, hb13⟩
        have HB13 : Hid (Below t w w13) := HB12.out.trans (hb13.mono HBl12.out.lob)
        have HBl13 := hid (HBl12.out.below hb13)
        have HLz13 := hid (HLz12.out.below hb13)
        have HRi := hid (sright_b (cap := cap13) (base := w12.heap.size) (B := true) (.inl ⟨HG.out, rfl⟩) hXX (by rw [← HM1.out]; exact ho13) hb13.size)
        rw [← HM1.out] at HRi
        clear ho13 hb13 HRX
        go_wp2_with fail
        refine HRi.out.mono ?_
        rintro e w14 ⟨rfl, hb14⟩
        have HB14 : Hid (Below t w w14) := HB13.out.trans (hb14.mono HBl13.out.lob)
        have HBl14 := hid (HBl13.out.below hb14)
        have HLz14 := hid (HLz13.out.below hb14)
        clear hb14 HRi
        have HAz := hid (sall_ok w14 z X HLz14.out HG.out.1)
        rw [HG.out.all] at HAz
        unfold GotS at HAz
        rw [← HM1.out] at HAz
        go_wp2_with fail
        refine HAz.out.mono ?_
        rintro e w15 ⟨⟨ao15, cap15, rfl, ho15⟩, hb15⟩
        have HB15 : Hid (Below t w w15) := HB14.out.trans (hb15.mono HBl14.out.lob)
        have HBl15 := hid (HBl14.out.below hb15)
        have HRf2 := hid (refs_ok w15 ao15 cap15 X hXX (Rd4.own (by rw [← HM1.out]; exact ho15)))
        unfold GotD at HRf2
        rw [← HM1.out] at HRf2
        clear ho15 hb15 HAz
        go_wp2_with fail
        refine HRf2.out.mono ?_
        rintro e w16 ⟨⟨ao16, cap16, rfl, ho16⟩, hb16⟩
        have HB16 : Hid (Below t w w16) := HB15.out.trans (hb16.mono HBl15.out.lob)
        have HBl16 := hid (HBl15.out.below hb16)
        have HR16 : Hid (Rd4 w16 ao16 X) := Rd4.own (by rw [← HM1.out]; exact ho16)
        have HRX2 := hid (refs_ok w16 a1 cap1 X hXX (HGX.out.below (by rw [← HT.out]; exact HB16.out)))
        unfold GotD at HRX2
        rw [← HM1.out] at HRX2
        clear ho16 hb16 HRf2
        go_wp2_with fail
        refine HRX2.out.mono ?_
        rintro e w17 ⟨⟨ao17, cap17, rfl, ho17⟩, hb17⟩
        have HB17 : Hid (Below t w w17) := HB16.out.trans (hb17.mono HBl16.out.lob)
        have HBl17 := hid (HBl16.out.below hb17)
        have HSm2 := hid (same_ok w17 ao16 ao17 cap16 cap17 X hXX (HR16.out.below hb17) (Rd4.own (by rw [← HM1.out]; exact ho17)))
        rw [← HM1.out] at HSm2
        clear ho17 hb17 HRX2
        go_wp2_with fail
        refine HSm2.out.mono ?_
        rintro e w18 ⟨rfl, hb18⟩
        have HB18 : Hid (Below t w w18) := HB17.out.trans (hb18.mono HBl17.out.lob)
        have HBl18 := hid (HBl17.out.below hb18)
        clear hb18 HSm2
        go_wp2_with fail
        refine (four_ok w18).mono ?_
        rintro e w19 ⟨rfl, hbz⟩
        have HBz : Hid (Below t w w19) := HB18.out.trans (hbz.mono HBl18.out.lob)
        clear hbz
        go_wp2_with fail
        go_ret
        exact ⟨rfl, HBz.out⟩
  · have HG := hid hGX
    clear hGX
    go_enter Try.func5, Try.ntmps5
    go_wp2_with fail
    refine HNw.out.mono ?_
    rintro e w1 ⟨rfl, ht1, hb1⟩
    have HT1 := hid ht1
    have HB1 : Hid (Below t w w1) := hb1
    clear ht1 hb1 HNw
    have hz29 := zero29t
    go_wp2_with fail
    have HW3 : Hid (BsX (w1.alloc (.cells #[.slice none 0 0] 29)) t w1.heap.size w1.heap.size) := ⟨[], GS.nil, HT1.out.below (below_one w1 _), rt_new w1 _ (Nat.le_refl _), HT1.out.lt⟩
    have HB3 : Hid (Below t w (w1.alloc (.cells #[.slice none 0 0] 29))) := HB1.out.trans ((below_one w1 _).mono (Nat.le_of_lt HT1.out.lt))
    clear hz29
    obtain ⟨r, hr⟩ : ∃ r, r = w1.heap.size := ⟨_, rfl⟩
    rw [← hr] at HW3 ⊢
    generalize w1.alloc (.cells #[.slice none 0 0] 29) = w3 at *
    clear hr HT1 HB1
    go_loopw [35] (fun u wr => ∃ (k : Nat), k ≤ len ∧ u = i64 k ∧ Hid (BsX wr t r r) ∧ Hid (Below t w wr)) (fun u _ => len - (intOf u).toNat)
    case atStart => exact ⟨0, by omega, rfl, HW3, HB3⟩
    case round =>
      obtain ⟨k, hk, rfl, HBo, HBw⟩ := hrel
      by_cases hlt : k < len
      · have hkI : (k : Int) < len := by omega
        obtain ⟨b0, off, rfl, hbl, hr⟩ := (HSb.out.below (HT.out ▸ HBw.out)).at hlt
        obtain ⟨x, hx⟩ : ∃ x, f k = x := ⟨_, rfl⟩
        rw [hx] at hr
        have c0 : wr.cell? ⟨b0, off + k * 4, none⟩ = some (i64 x.what) := hr 0 _ rfl
        have c1 : wr.cell? ⟨b0, off + k * 4 + 1, none⟩ = some (i64 x.pid) := hr 1 _ rfl
        have c2 : wr.cell? ⟨b0, off + k * 4 + 2, none⟩ = some (i64 x.fst) := hr 2 _ rfl
        have c3 : wr.cell? ⟨b0, off + k * 4 + 3, none⟩ = some (i64 x.n) := hr 3 _ rfl
        have HBV : Hid (Below t w (wr.alloc (spO x))) := HBw.out.alloc HBo.out.lob _
        have HBoV : Hid (BsX (wr.alloc (spO x)) t r r) := HBo.out.below (below_one wr _)
        have HX : Hid ((wr.alloc (spO x)).heap[wr.heap.size]? = some (spO x)) := heap_last wr _
        clear hx hr
        have HD := hid (does_ok (wr.alloc (spO x)) t r r x HBoV.out)
        go_wp2_with fail
        refine HD.out.mono ?_
        rintro e w5 ⟨rfl, hbo5, hf5⟩
        have HBo5 := hid hbo5
        have HB5 : Hid (Below t w w5) := HBV.out.trans (hf5.below.mono (Nat.le_refl _))
        clear hbo5 hf5
        go_wp2_with fail
        exact ⟨⟨k + 1, by omega, by go_num, HBo5, HB5⟩, by simp [intOf]; omega⟩
      · clear HW3 HB3
        obtain ⟨L, hbo⟩ := HBo.out
        have HBl := hid hbo
        have HGS := hid hbo.gs
        have hA24 := all_24 hbo.gs
        have hll : (allL L).length ≤ 1000 := by omega
        have HA0 := hid (sall_ok wr t L hbo.tb hbo.gs)
        obtain ⟨N, hN⟩ : ∃ N, N = (allL L).length := ⟨_, rfl⟩
        have HN := hid hN
        unfold GotS at HA0
        rw [← hN] at HA0
        clear hbo HBo hN hA24
        go_wp2_with fail
        refine HA0.out.mono ?_
        rintro e w6 ⟨⟨ao6, cap6, rfl, ho6⟩, hb6⟩
        have HB6 : Hid (Below t w w6) := HBw.out.trans (hb6.mono HBl.out.lob)
        have HBl6 := hid (HBl.out.below hb6)
        have HLo := hid (load_good (cap := cap6) (all_lg HGS.out) hll (Rd4.own (by rw [← HN.out]; exact ho6)) (first_hi (all_gs HGS.out)))
        obtain ⟨u, hu⟩ : ∃ u, u = w6.heap.size := ⟨_, rfl⟩
        rw [← hu, ← HN.out] at HLo
        have HU := hid hu
        clear ho6 hb6 HA0 hu
        go_wp2_with fail
        refine HLo.out.mono ?_
        rintro e w7 ⟨rfl, hl7, hb7⟩
        have hb7' : Below w6.heap.size w6 w7 := by rw [← HU.out]; exact hb7
        have HLu7 : Hid (Tb w7 u (allL L)) := hl7
        have HB7 : Hid (Below t w w7) := HB6.out.trans (hb7'.mono HBl6.out.lob)
        have HBl7 := hid (HBl6.out.below hb7')
        have HL2 := hid (load_bad (cap := cap1) HG.out hXX (HGX.out.below (by rw [← HT.out]; exact HB7.out)) HMX.out)
        obtain ⟨z, hz⟩ : ∃ z, z = w7.heap.size := ⟨_, rfl⟩
        have HZ := hid hz
        rw [← hz] at HL2
        rw [← HM1.out] at HL2
        clear hl7 hb7 hb7' HLo hz
        go_wp2_with fail
        refine HL2.out.mono ?_
        rintro e w8 ⟨rfl, hb8⟩
        have hb8' : Below w7.heap.size w7 w8 := by rw [← HZ.out]; exact hb8
        have HLu8 := hid (HLu7.out.below hb8')
        have HB8 : Hid (Below t w w8) := HB7.out.trans (hb8'.mono HBl7.out.lob)
        have HBl8 := hid (HBl7.out.below hb8')
        have HA := hid (sall_ok w8 u (allL L) HLu8.out (all_gs HGS.out))
        rw [all_all HGS.out] at HA
        unfold GotS at HA
        rw [← HN.out] at HA
        clear hb8 hb8' HL2
        go_wp2_with fail
        refine HA.out.mono ?_
        rintro e w9 ⟨⟨ao9, cap9, rfl, ho9⟩, hb9⟩
        have HB9 : Hid (Below t w w9) := HB8.out.trans (hb9.mono HBl8.out.lob)
        have HBl9 := hid (HBl8.out.below hb9)
        have HRf := hid (refs_ok w9 ao9 cap9 (allL L) hll (Rd4.own (by rw [← HN.out]; exact ho9)))
        unfold GotD at HRf
        rw [← HN.out] at HRf
        clear ho9 hb9 HA
        go_wp2_with fail
        refine HRf.out.mono ?_
        rintro e w10 ⟨⟨ao10, cap10, rfl, ho10⟩, hb10⟩
        have HB10 : Hid (Below t w w10) := HB9.out.trans (hb10.mono HBl9.out.lob)
        have HBl10 := hid (HBl9.out.below hb10)
        have HR10 : Hid (Rd4 w10 ao10 (allL L)) := Rd4.own (by rw [← HN.out]; exact ho10)
        have HAr := hid (rsall_ok HBl10.out.rt HGS.out)
        unfold GotD at HAr
        rw [← HN.out] at HAr
        clear ho10 hb10 HRf
        go_wp2_with fail
        refine HAr.out.mono ?_
        rintro e w11 ⟨⟨ao11, cap11, rfl, ho11⟩, hb11⟩
        have HB11 : Hid (Below t w w11) := HB10.out.trans (hb11.mono HBl10.out.lob)
        have HBl11 := hid (HBl10.out.below hb11)
        have HSm := hid (same_ok w11 ao10 ao11 cap10 cap11 (allL L) hll (HR10.out.below hb11) (Rd4.own (by rw [← HN.out]; exact ho11)))
        rw [← HN.out] at HSm
        clear ho11 hb11 HAr
        go_wp2_with fail
        refine HSm.out.mono ?_
        rintro e w12 ⟨rfl, hb12⟩
        have HB12 : Hid (Below t w w12) := HB11.out.trans (hb12.mono HBl11.out.lob)
        have HBl12 := hid (HBl11.out.below hb12)
        have HRX := hid (refs_ok w12 a1 cap1 X hXX (HGX.out.below (by rw [← HT.out]; exact HB12.out)))
        unfold GotD at HRX
        rw [← HM1.out] at HRX
        clear hb12 HSm
        go_wp2_with fail
        refine HRX.out.mono ?_
        rintro e w13 ⟨⟨ao13, cap13, rfl, ho13⟩, hb13⟩
        have HB13 : Hid (Below t w w13) := HB12.out.trans (hb13.mono HBl12.out.lob)
        have HBl13 := hid (HBl12.out.below hb13)
        have HRi := hid (sright_b (cap := cap13) (base := w12.heap.size) (B := false) (.inr ⟨HG.out, rfl⟩) hXX (by rw [← HM1.out]; exact ho13) hb13.size)
        rw [← HM1.out] at HRi
        clear ho13 hb13 HRX
        go_wp2_with fail
        refine HRi.out.mono ?_
        rintro e w14 ⟨rfl, hb14⟩
        have HB14 : Hid (Below t w w14) := HB13.out.trans (hb14.mono HBl13.out.lob)
        have HBl14 := hid (HBl13.out.below hb14)
        clear hb14 HRi
        go_wp2_with fail
        refine (four_ok w14).mono ?_
        rintro e w15 ⟨rfl, hbz⟩
        have HBz : Hid (Below t w w15) := HB14.out.trans (hbz.mono HBl14.out.lob)
        clear hbz
        go_wp2_with fail
        go_ret
        exact ⟨rfl, HBz.out⟩
end Go.Proofs.Ytlkcpjefgelcoaa
