/- SpansMay's walk; no statement is proved in this text. -/
import Derived.Test.YtlkcpjefgelcoaaDo
namespace Go.Proofs.Ytlkcpjefgelcoaa
open Go.ChangeShapes Go.WideShapes Go.ChangeAt Go.RowKit Go.Deep
attribute [local go_sem ↓] Go.wp_at_zero Go.wp_at_succ

theorem may_read {L : List Sp} (p g : Int) (h : mayB L p g true = true) : mayB L p g false = true := by
  unfold mayB at h ⊢
  cases hf : L.find? (cov p g) with
  | none => rw [hf] at h; cases h
  | some s => rfl
theorem setP_cov (p f o q g : Int) (s : Sp) : cov q g (setP p f o s) = cov q g s := by
  show withF q g (ar (setP p f o s)) = _
  rw [ar_setP]
  rfl
theorem find_setP (L : List Sp) (p f o q g : Int) : (L.map (setP p f o)).find? (cov q g) = (L.find? (cov q g)).map (setP p f o) := by
  induction L with
  | nil => rfl
  | cons x L ih =>
    rw [List.map_cons, List.find?_cons, List.find?_cons, setP_cov, ih]
    cases cov q g x <;> rfl
theorem may_setP (L : List Sp) (p f o q g : Int) : mayB (L.map (setP p f o)) q g false = mayB L q g false := by
  unfold mayB
  rw [find_setP]
  cases L.find? (cov q g) <;> rfl
theorem may_in {L : List Sp} (hG : GS L) {p f : Int} {s : Sp} (hs : s ∈ L) (hb : beg p f s = true) (o : Int) {g : Int} (h1 : f ≤ g) (h2 : g < f + s.2.2.1) : mayB (L.map (setP p f o)) p g true = (o == 3) := by
  obtain ⟨e1, e2⟩ := beg_iff.1 hb
  have hc : cov p g s = true := cov_iff.2 ⟨e1, by omega, by omega⟩
  unfold mayB
  rw [find_setP, hG.find hs hc]
  show (!true || (setP p f o s).2.2.2 == 3) = _
  unfold setP
  rw [if_pos hb]
  rfl
theorem may_off {L : List Sp} (hG : GS L) {p f : Int} {s : Sp} (hs : s ∈ L) (hb : beg p f s = true) (o : Int) {g : Int} (h : ¬(f ≤ g ∧ g < f + s.2.2.1)) : mayB (L.map (setP p f o)) p g true = mayB L p g true := by
  obtain ⟨e1, e2⟩ := beg_iff.1 hb
  unfold mayB
  rw [find_setP]
  cases hf : L.find? (cov p g) with
  | none => rfl
  | some x =>
    show (!true || (setP p f o x).2.2.2 == 3) = (!true || x.2.2.2 == 3)
    unfold setP
    by_cases hx : beg p f x = true
    · exfalso
      have hxm := List.mem_of_find?_eq_some hf
      have hcx := List.find?_some hf
      have := hG.one hs hxm (hG.begs hs hb) (hG.begs hxm hx)
      subst this
      obtain ⟨_, c2, c3⟩ := cov_iff.1 hcx
      exact h ⟨by omega, by omega⟩
    · rw [if_neg hx]
/-- What the last loop asks of each page. -/
structure PgOk (L L' : List Sp) (E : Int) (ins : Int → Bool) (o : Int) (g : Int) : Prop where
  read : mayB L' 1 g true = true → mayB L' 1 g false = true
  same : mayB L' 1 g false = mayB L 1 g false
  inn : ins g = true → E = 0 → mayB L' 1 g true = (o == 3)
  off : ins g = false ∨ E ≠ 0 → mayB L' 1 g true = mayB L 1 g true
set_option maxRecDepth 100000 in
set_option maxHeartbeats 12800000 in
theorem may_any (w : World) (ao : Option Addr) (len cap : Nat) (fst prot : Int) (f : Nat → Stp) (hlen : len ≤ maxLen) (hS : SSl w ao len f) : Calls Try.prog 6 #[.slice ao len cap, i64 fst, i64 prot] w fun e w' => e = .returned (.bool true) ∧ Below w.heap.size w w' := by
  have hm : (len : Int) ≤ 9223372036854775807 := by unfold maxLen at hlen; omega
  have HSb := hid hS
  have HNw := hid (snew_ok w)
  obtain ⟨t, ht⟩ : ∃ t, t = w.heap.size := ⟨_, rfl⟩
  have HT := hid ht
  rw [← ht] at HNw ⊢
  clear hS hlen ht
  by_cases h60 : 60 < len
  · have h60' : (60 : Int) < len := by omega
    go_enter Try.func6, Try.ntmps6
    go_wp2_with fail
    refine HNw.out.mono ?_
    rintro e w1 ⟨rfl, ht1, hb1⟩
    have HB1 : Hid (Below t w w1) := hb1
    have hlo1 : t ≤ w1.heap.size := Nat.le_of_lt ht1.lt
    clear ht1 hb1 HNw
    go_wp2_with fail
    refine (four_ok w1).mono ?_
    rintro e w2 ⟨rfl, hb2⟩
    have HB2 : Hid (Below t w w2) := HB1.out.trans (hb2.mono hlo1)
    clear hb2
    go_wp2_with fail
    go_ret
    exact ⟨rfl, HB2.out⟩
  have h60' : ¬ (60 : Int) < len := by omega
  go_enter Try.func6, Try.ntmps6
  go_wp2_with fail
  refine HNw.out.mono ?_
  rintro e w1 ⟨rfl, ht1, hb1⟩
  have HT1 := hid ht1
  have HB1 : Hid (Below t w w1) := hb1
  clear ht1 hb1 HNw
  have hz29 := zero29t
  go_wp2_with fail
  have HW3 : Hid (BsX (w1.alloc (.cells #[.slice none 0 0] 29)) t w1.heap.size w1.heap.size) := ⟨[], GS.nil, HT1.out.below (below_one w1 _), rt_new w1 _ (Nat.le_refl _), HT1.out.lt⟩
  have HB3 : Hid (Below t w (w1.alloc (.cells #[.slice none 0 0] 29))) := HB1.out.trans ((below_one w1 _).mono (Nat.le_of_lt HT1.out.lt))
  clear hz29
  obtain ⟨r, hr⟩ : ∃ r, r = w1.heap.size := ⟨_, rfl⟩
  rw [← hr] at HW3 ⊢
  generalize w1.alloc (.cells #[.slice none 0 0] 29) = w3 at *
  clear hr HT1 HB1
  go_loopw [33] (fun u wr => ∃ (k : Nat), k ≤ len ∧ u = i64 k ∧ Hid (BsX wr t r r) ∧ Hid (Below t w wr)) (fun u _ => len - (intOf u).toNat)
  case atStart => exact ⟨0, by omega, rfl, HW3, HB3⟩
  case round =>
    obtain ⟨k, hk, rfl, HBo, HBw⟩ := hrel
    by_cases hlt : k < len
    · have hkI : (k : Int) < len := by omega
      obtain ⟨b0, off, rfl, hbl, hr⟩ := (HSb.out.below (HT.out ▸ HBw.out)).at hlt
      obtain ⟨x, hx⟩ : ∃ x, f k = x := ⟨_, rfl⟩
      rw [hx] at hr
      have c0 : wr.cell? ⟨b0, off + k * 4, none⟩ = some (i64 x.what) := hr 0 _ rfl
      have c1 : wr.cell? ⟨b0, off + k * 4 + 1, none⟩ = some (i64 x.pid) := hr 1 _ rfl
      have c2 : wr.cell? ⟨b0, off + k * 4 + 2, none⟩ = some (i64 x.fst) := hr 2 _ rfl
      have c3 : wr.cell? ⟨b0, off + k * 4 + 3, none⟩ = some (i64 x.n) := hr 3 _ rfl
      have HBV : Hid (Below t w (wr.alloc (spO x))) := HBw.out.alloc HBo.out.lob _
      have HBoV : Hid (BsX (wr.alloc (spO x)) t r r) := HBo.out.below (below_one wr _)
      have HX : Hid ((wr.alloc (spO x)).heap[wr.heap.size]? = some (spO x)) := heap_last wr _
      clear hx hr
      have HD := hid (does_ok (wr.alloc (spO x)) t r r x HBoV.out)
      go_wp2_with fail
      refine HD.out.mono ?_
      rintro e w5 ⟨rfl, hbo5, hf5⟩
      have HBo5 := hid hbo5
      have HB5 : Hid (Below t w w5) := HBV.out.trans (hf5.below.mono (Nat.le_refl _))
      clear hbo5 hf5
      go_wp2_with fail
      exact ⟨⟨k + 1, by omega, by go_num, HBo5, HB5⟩, by simp [intOf]; omega⟩
    · clear HW3 HB3
      obtain ⟨L, hbo⟩ := HBo.out
      have HBl := hid hbo
      have HGS := hid hbo.gs
      have hll : L.length ≤ 1000 := by have := hbo.gs.len; omega
      clear hbo HBo
      cases hf : L.find? (beg 1 fst) with
      | none =>
        have HF := hid hf
        clear hf
        have HP := hid (sprot_no wr (pq t) 1 fst prot (fun W' hb => sfrom_none W' t L 1 fst (HBl.out.tb.below hb) HGS.out HF.out))
        have HA := hid fun W (hW : Rt W r r L) => rat_none 1 fst hW hll HF.out
        have HG2 := HGS
        go_wp2_with fail
        refine HP.out.mono ?_
        rintro e w5 ⟨rfl, hb5⟩
        have HT5 := hid (HBl.out.tb.below hb5)
        have HR5 := hid (HBl.out.rt.below hb5)
        have HB5 : Hid (Below t w w5) := HBw.out.trans (hb5.mono HBl.out.lob)
        clear hb5 HP
        have HA5 := hid (HA.out w5 HR5.out)
        clear HA
        go_wp2_with fail
        refine HA5.out.mono ?_
        rintro e w6 ⟨rfl, hb6⟩
        have HT6 := hid (HT5.out.below hb6)
        have HR6 := hid (HR5.out.below hb6)
        have HB6 : Hid (Below t w w6) := HB5.out.trans (hb6.mono (Nat.le_of_lt HT5.out.lt))
        clear hb6 HA5
        go_wp2_with fail
        go_loopw [13] (fun u wr => ∃ (g : Nat), g ≤ 16 ∧ u = i64 g ∧ Hid (Tb wr t L) ∧ Hid (Rt wr r r L) ∧ Hid (Below t w wr)) (fun u _ => 16 - (intOf u).toNat)
        case atStart => exact ⟨0, by omega, rfl, HT6, HR6, HB6⟩
        case round =>
          obtain ⟨g, hg, rfl, HTr, HRr, HBr⟩ := hrel
          by_cases hlt : g < 16
          · have hgI : (g : Int) < 16 := by omega
            have hg0 : (0 : Int) ≤ g := by omega
            have HPt := hid fun W (hW : Tb W t L) => smay_ok W t L 1 g true hW HG2.out
            have HPf := hid fun W (hW : Tb W t L) => smay_ok W t L 1 g false hW HG2.out
            have HDf := hid fun W (hW : Rt W r r L) => rmay_ok 1 (g : Int) false hW HGS.out
            have HDt := hid fun W (hW : Rt W r r L) => rmay_ok 1 (g : Int) true hW HGS.out
            cases hM1 : mayB L 1 (g : Int) true
            · cases hM2 : mayB L 1 (g : Int) false
              all_goals
                rw [hM1] at HPt HDt
                rw [hM2] at HPf HDf
                clear hM1 hM2
                go_wp2_with fail
                refine (HPt.out wr HTr.out).mono ?_
                rintro e wq ⟨rfl, hv⟩
                replace hv := hv.symm
                subst hv
                go_wp2_with fail
                refine (HPf.out wr HTr.out).mono ?_
                rintro e wq ⟨rfl, hv⟩
                replace hv := hv.symm
                subst hv
                go_wp2_with fail
                refine (HDf.out wr HRr.out).mono ?_
                rintro e q1 ⟨rfl, hb⟩
                have HT1 := hid (HTr.out.below hb)
                have HR1 := hid (HRr.out.below hb)
                have HB1 : Hid (Below t w q1) := HBr.out.trans (hb.mono (Nat.le_of_lt HTr.out.lt))
                clear hb
                go_wp2_with fail
                refine (HDt.out q1 HR1.out).mono ?_
                rintro e q2 ⟨rfl, hb⟩
                have HT2 := hid (HT1.out.below hb)
                have HR2 := hid (HR1.out.below hb)
                have HB2 : Hid (Below t w q2) := HB1.out.trans (hb.mono (Nat.le_of_lt HT1.out.lt))
                clear hb
                go_wp2_with fail
                exact ⟨⟨g + 1, by omega, by go_num, HT2, HR2, HB2⟩, by simp [intOf]; omega⟩
            · have hM2 := may_read 1 (g : Int) hM1
              rw [hM1] at HPt HDt
              rw [hM2] at HPf HDf
              clear hM1 hM2
              go_wp2_with fail
              refine (HPt.out wr HTr.out).mono ?_
              rintro e wq ⟨rfl, hv⟩
              replace hv := hv.symm
              subst hv
              go_wp2_with fail
              refine (HPf.out wr HTr.out).mono ?_
              rintro e wq ⟨rfl, hv⟩
              replace hv := hv.symm
              subst hv
              go_wp2_with fail
              refine (HPf.out wr HTr.out).mono ?_
              rintro e wq ⟨rfl, hv⟩
              replace hv := hv.symm
              subst hv
              go_wp2_with fail
              refine (HDf.out wr HRr.out).mono ?_
              rintro e q1 ⟨rfl, hb⟩
              have HT1 := hid (HTr.out.below hb)
              have HR1 := hid (HRr.out.below hb)
              have HB1 : Hid (Below t w q1) := HBr.out.trans (hb.mono (Nat.le_of_lt HTr.out.lt))
              clear hb
              go_wp2_with fail
              refine (HDt.out q1 HR1.out).mono ?_
              rintro e q2 ⟨rfl, hb⟩
              have HT2 := hid (HT1.out.below hb)
              have HR2 := hid (HR1.out.below hb)
              have HB2 : Hid (Below t w q2) := HB1.out.trans (hb.mono (Nat.le_of_lt HT1.out.lt))
              clear hb
              go_wp2_with fail
              exact ⟨⟨g + 1, by omega, by go_num, HT2, HR2, HB2⟩, by simp [intOf]; omega⟩
          · have hgI : ¬ (g : Int) < 16 := by omega
            go_wp2_with fail
            refine (four_ok wr).mono ?_
            rintro e w9 ⟨rfl, hbz⟩
            have HBz : Hid (Below t w w9) := HBr.out.trans (hbz.mono (Nat.le_of_lt HTr.out.lt))
            clear hbz
            go_wp2_with fail
            go_ret
            exact ⟨rfl, HBz.out⟩
      | some s =>
        obtain ⟨K, hK, hq, hj⟩ := find_at hf
        have HKs := hid hK
        have HBg := hid hq
        have HJ := hid hj
        have HSm : Hid (s ∈ L) := List.mem_of_getElem? hK
        have HKL : Hid (K < L.length) := (List.getElem?_eq_some_iff.1 hK).1
        have HF := hid hf
        have HL24 : Hid (L.length ≤ 24) := HGS.out.len
        have hs16 := HGS.out.isA HSm.out
        have hfs : s.2.1 = fst := (beg_iff.1 hq).2
        have hf0 : (0 : Int) ≤ fst ∧ fst ≤ 16 ∧ 1 ≤ s.2.2.1 ∧ s.2.2.1 ≤ 16 := by omega
        obtain ⟨hf0, hf1, hf2, hf3⟩ := hf0
        clear hf hK hq hj hs16 hfs
        by_cases ho : prot = 1 ∨ prot = 3
        · rcases ho with rfl | rfl
          · have HP := hid (sprot_yes wr t L 1 fst 1 s HBl.out.tb HGS.out HF.out (by decide))
            have HA := hid fun W (hW : Rt W r r L) => rat_some 1 fst K s hW hll HKs.out HBg.out HJ.out
            have HG2 := hid (HGS.out.setP 1 fst (o := 1) (by decide))
            have hK0 : (0 : Int) ≤ K := by omega
            go_wp2_with fail
            refine HP.out.mono ?_
            rintro e w5 ⟨rfl, hT5, hO5⟩
            have HT5 := hid hT5
            have HR5 := hid (rt_touch HBl.out.rt HBl.out.lt hO5)
            have HB5 : Hid (Below t w w5) := HBw.out.trans (hO5.below (Nat.le_refl _) HBl.out.lob)
            clear hT5 hO5 HP
            have HA5 := hid (HA.out w5 HR5.out)
            clear HA
            go_wp2_with fail
            refine HA5.out.mono ?_
            rintro e w6 ⟨rfl, hb6⟩
            have HT6 := hid (HT5.out.below hb6)
            have HR6 := hid (HR5.out.below hb6)
            have HB6 : Hid (Below t w w6) := HB5.out.trans (hb6.mono (Nat.le_of_lt HT5.out.lt))
            clear hb6 HA5
            go_wp2_with fail
            go_loopw [13] (fun u wr => ∃ (g : Nat), g ≤ 16 ∧ u = i64 g ∧ Hid (Tb wr t (L.map (setP 1 fst 1))) ∧ Hid (Rt wr r r L) ∧ Hid (Below t w wr)) (fun u _ => 16 - (intOf u).toNat)
            case atStart => exact ⟨0, by omega, rfl, HT6, HR6, HB6⟩
            case round =>
              obtain ⟨g, hg, rfl, HTr, HRr, HBr⟩ := hrel
              by_cases hlt : g < 16
              · have hgI : (g : Int) < 16 := by omega
                have hg0 : (0 : Int) ≤ g := by omega
                have HPt := hid fun W (hW : Tb W t (L.map (setP 1 fst 1))) => smay_ok W t (L.map (setP 1 fst 1)) 1 g true hW HG2.out
                have HPf := hid fun W (hW : Tb W t (L.map (setP 1 fst 1))) => smay_ok W t (L.map (setP 1 fst 1)) 1 g false hW HG2.out
                have HDf := hid fun W (hW : Rt W r r L) => rmay_ok 1 (g : Int) false hW HGS.out
                have HDt := hid fun W (hW : Rt W r r L) => rmay_ok 1 (g : Int) true hW HGS.out
                by_cases hin : fst ≤ (g : Int) ∧ (g : Int) < fst + s.2.2.1
                · have HIN : Hid (mayB (L.map (setP 1 fst 1)) 1 (g : Int) true = false) := (may_in HGS.out HSm.out HBg.out 1 hin.1 hin.2).trans rfl
                  obtain ⟨hi1, hi2⟩ := hin
                  rw [HIN.out] at HPt
                  rw [may_setP] at HPf
                  cases hM2 : mayB L 1 (g : Int) false
                  all_goals
                    rw [hM2] at HPf HDf
                    clear hM2
                    obtain ⟨_, aoR, capR, hbkR, hownR⟩ := HRr.out
                    have r0 : wr.cell? ⟨r, 0, none⟩ = some (.slice aoR L.length capR) := blk_cell hbkR 0
                    have hrl := blk_lt hbkR
                    have hcapR := own_cap4 hownR
                    obtain ⟨g0, o0, rfl, hgl, d0, d1, d2, d3⟩ := Rd4.own hownR K s HKs.out
                    have hKI : (K : Int) < L.length := by have := HKL.out; omega
                    have hL24 : L.length ≤ 24 := HL24.out
                    clear hbkR hownR
                    generalize L.length = N at r0 hKI hcapR hL24
                    go_wp2_with fail
                    refine (HPt.out wr HTr.out).mono ?_
                    rintro e wq ⟨rfl, hv⟩
                    replace hv := hv.symm
                    subst hv
                    go_wp2_with fail
                    refine (HPf.out wr HTr.out).mono ?_
                    rintro e wq ⟨rfl, hv⟩
                    replace hv := hv.symm
                    subst hv
                    go_wp2_with fail
                    refine (HDf.out wr HRr.out).mono ?_
                    rintro e q1 ⟨rfl, hb⟩
                    have HT1 := hid (HTr.out.below hb)
                    have HR1 := hid (HRr.out.below hb)
                    have HB1 : Hid (Below t w q1) := HBr.out.trans (hb.mono (Nat.le_of_lt HTr.out.lt))
                    clear hb
                    go_wp2_with fail
                    exact ⟨⟨g + 1, by omega, by go_num, HT1, HR1, HB1⟩, by simp [intOf]; omega⟩
                · have HOFF : Hid (mayB (L.map (setP 1 fst 1)) 1 (g : Int) true = mayB L 1 (g : Int) true) := may_off HGS.out HSm.out HBg.out 1 hin
                  by_cases hi1 : fst ≤ (g : Int)
                  · have hi2 : ¬ (g : Int) < fst + s.2.2.1 := fun h => hin ⟨hi1, h⟩
                    clear hin
                    rw [HOFF.out] at HPt
                    rw [may_setP] at HPf
                    cases hM1 : mayB L 1 (g : Int) true
                    · cases hM2 : mayB L 1 (g : Int) false
                      all_goals
                        rw [hM1] at HPt HDt
                        rw [hM2] at HPf HDf
                        clear hM1 hM2
                        obtain ⟨_, aoR, capR, hbkR, hownR⟩ := HRr.out
                        have r0 : wr.cell? ⟨r, 0, none⟩ = some (.slice aoR L.length capR) := blk_cell hbkR 0
                        have hrl := blk_lt hbkR
                        have hcapR := own_cap4 hownR
                        obtain ⟨g0, o0, rfl, hgl, d0, d1, d2, d3⟩ := Rd4.own hownR K s HKs.out
                        have hKI : (K : Int) < L.length := by have := HKL.out; omega
                        have hL24 : L.length ≤ 24 := HL24.out
                        clear hbkR hownR
                        generalize L.length = N at r0 hKI hcapR hL24
                        go_wp2_with fail
                        refine (HPt.out wr HTr.out).mono ?_
                        rintro e wq ⟨rfl, hv⟩
                        replace hv := hv.symm
                        subst hv
                        go_wp2_with fail
                        refine (HPf.out wr HTr.out).mono ?_
                        rintro e wq ⟨rfl, hv⟩
                        replace hv := hv.symm
                        subst hv
                        go_wp2_with fail
                        refine (HDf.out wr HRr.out).mono ?_
                        rintro e q1 ⟨rfl, hb⟩
                        have HT1 := hid (HTr.out.below hb)
                        have HR1 := hid (HRr.out.below hb)
                        have HB1 : Hid (Below t w q1) := HBr.out.trans (hb.mono (Nat.le_of_lt HTr.out.lt))
                        clear hb
                        go_wp2_with fail
                        refine (HDt.out q1 HR1.out).mono ?_
                        rintro e q2 ⟨rfl, hb⟩
                        have HT2 := hid (HT1.out.below hb)
                        have HR2 := hid (HR1.out.below hb)
                        have HB2 : Hid (Below t w q2) := HB1.out.trans (hb.mono (Nat.le_of_lt HT1.out.lt))
                        clear hb
                        go_wp2_with fail
                        exact ⟨⟨g + 1, by omega, by go_num, HT2, HR2, HB2⟩, by simp [intOf]; omega⟩
                    · have hM2 := may_read 1 (g : Int) hM1
                      rw [hM1] at HPt HDt
                      rw [hM2] at HPf HDf
                      clear hM1 hM2
                      obtain ⟨_, aoR, capR, hbkR, hownR⟩ := HRr.out
                      have r0 : wr.cell? ⟨r, 0, none⟩ = some (.slice aoR L.length capR) := blk_cell hbkR 0
                      have hrl := blk_lt hbkR
                      have hcapR := own_cap4 hownR
                      obtain ⟨g0, o0, rfl, hgl, d0, d1, d2, d3⟩ := Rd4.own hownR K s HKs.out
                      have hKI : (K : Int) < L.length := by have := HKL.out; omega
                      have hL24 : L.length ≤ 24 := HL24.out
                      clear hbkR hownR
                      generalize L.length = N at r0 hKI hcapR hL24
                      go_wp2_with fail
                      refine (HPt.out wr HTr.out).mono ?_
                      rintro e wq ⟨rfl, hv⟩
                      replace hv := hv.symm
                      subst hv
                      go_wp2_with fail
                      refine (HPf.out wr HTr.out).mono ?_
                      rintro e wq ⟨rfl, hv⟩
                      replace hv := hv.symm
                      subst hv
                      go_wp2_with fail
                      refine (HPf.out wr HTr.out).mono ?_
                      rintro e wq ⟨rfl, hv⟩
                      replace hv := hv.symm
                      subst hv
                      go_wp2_with fail
                      refine (HDf.out wr HRr.out).mono ?_
                      rintro e q1 ⟨rfl, hb⟩
                      have HT1 := hid (HTr.out.below hb)
                      have HR1 := hid (HRr.out.below hb)
                      have HB1 : Hid (Below t w q1) := HBr.out.trans (hb.mono (Nat.le_of_lt HTr.out.lt))
                      clear hb
                      go_wp2_with fail
                      refine (HDt.out q1 HR1.out).mono ?_
                      rintro e q2 ⟨rfl, hb⟩
                      have HT2 := hid (HT1.out.below hb)
                      have HR2 := hid (HR1.out.below hb)
                      have HB2 : Hid (Below t w q2) := HB1.out.trans (hb.mono (Nat.le_of_lt HT1.out.lt))
                      clear hb
                      go_wp2_with fail
                      exact ⟨⟨g + 1, by omega, by go_num, HT2, HR2, HB2⟩, by simp [intOf]; omega⟩
                  · clear hin
                    rw [HOFF.out] at HPt
                    rw [may_setP] at HPf
                    cases hM1 : mayB L 1 (g : Int) true
                    · cases hM2 : mayB L 1 (g : Int) false
                      all_goals
                        rw [hM1] at HPt HDt
                        rw [hM2] at HPf HDf
                        clear hM1 hM2
                        obtain ⟨_, aoR, capR, hbkR, hownR⟩ := HRr.out
                        have r0 : wr.cell? ⟨r, 0, none⟩ = some (.slice aoR L.length capR) := blk_cell hbkR 0
                        have hrl := blk_lt hbkR
                        have hcapR := own_cap4 hownR
                        obtain ⟨g0, o0, rfl, hgl, d0, d1, d2, d3⟩ := Rd4.own hownR K s HKs.out
                        have hKI : (K : Int) < L.length := by have := HKL.out; omega
                        have hL24 : L.length ≤ 24 := HL24.out
                        clear hbkR hownR
                        generalize L.length = N at r0 hKI hcapR hL24
                        go_wp2_with fail
                        refine (HPt.out wr HTr.out).mono ?_
                        rintro e wq ⟨rfl, hv⟩
                        replace hv := hv.symm
                        subst hv
                        go_wp2_with fail
                        refine (HPf.out wr HTr.out).mono ?_
                        rintro e wq ⟨rfl, hv⟩
                        replace hv := hv.symm
                        subst hv
                        go_wp2_with fail
                        refine (HDf.out wr HRr.out).mono ?_
                        rintro e q1 ⟨rfl, hb⟩
                        have HT1 := hid (HTr.out.below hb)
                        have HR1 := hid (HRr.out.below hb)
                        have HB1 : Hid (Below t w q1) := HBr.out.trans (hb.mono (Nat.le_of_lt HTr.out.lt))
                        clear hb
                        go_wp2_with fail
                        refine (HDt.out q1 HR1.out).mono ?_
                        rintro e q2 ⟨rfl, hb⟩
                        have HT2 := hid (HT1.out.below hb)
                        have HR2 := hid (HR1.out.below hb)
                        have HB2 : Hid (Below t w q2) := HB1.out.trans (hb.mono (Nat.le_of_lt HT1.out.lt))
                        clear hb
                        go_wp2_with fail
                        exact ⟨⟨g + 1, by omega, by go_num, HT2, HR2, HB2⟩, by simp [intOf]; omega⟩
                    · have hM2 := may_read 1 (g : Int) hM1
                      rw [hM1] at HPt HDt
                      rw [hM2] at HPf HDf
                      clear hM1 hM2
                      obtain ⟨_, aoR, capR, hbkR, hownR⟩ := HRr.out
                      have r0 : wr.cell? ⟨r, 0, none⟩ = some (.slice aoR L.length capR) := blk_cell hbkR 0
                      have hrl := blk_lt hbkR
                      have hcapR := own_cap4 hownR
                      obtain ⟨g0, o0, rfl, hgl, d0, d1, d2, d3⟩ := Rd4.own hownR K s HKs.out
                      have hKI : (K : Int) < L.length := by have := HKL.out; omega
                      have hL24 : L.length ≤ 24 := HL24.out
                      clear hbkR hownR
                      generalize L.length = N at r0 hKI hcapR hL24
                      go_wp2_with fail
                      refine (HPt.out wr HTr.out).mono ?_
                      rintro e wq ⟨rfl, hv⟩
                      replace hv := hv.symm
                      subst hv
                      go_wp2_with fail
                      refine (HPf.out wr HTr.out).mono ?_
                      rintro e wq ⟨rfl, hv⟩
                      replace hv := hv.symm
                      subst hv
                      go_wp2_with fail
                      refine (HPf.out wr HTr.out).mono ?_
                      rintro e wq ⟨rfl, hv⟩
                      replace hv := hv.symm
                      subst hv
                      go_wp2_with fail
                      refine (HDf.out wr HRr.out).mono ?_
                      rintro e q1 ⟨rfl, hb⟩
                      have HT1 := hid (HTr.out.below hb)
                      have HR1 := hid (HRr.out.below hb)
                      have HB1 : Hid (Below t w q1) := HBr.out.trans (hb.mono (Nat.le_of_lt HTr.out.lt))
                      clear hb
                      go_wp2_with fail
                      refine (HDt.out q1 HR1.out).mono ?_
                      rintro e q2 ⟨rfl, hb⟩
                      have HT2 := hid (HT1.out.below hb)
                      have HR2 := hid (HR1.out.below hb)
                      have HB2 : Hid (Below t w q2) := HB1.out.trans (hb.mono (Nat.le_of_lt HT1.out.lt))
                      clear hb
                      go_wp2_with fail
                      exact ⟨⟨g + 1, by omega, by go_num, HT2, HR2, HB2⟩, by simp [intOf]; omega⟩
              · have hgI : ¬ (g : Int) < 16 := by omega
                go_wp2_with fail
                refine (four_ok wr).mono ?_
                rintro e w9 ⟨rfl, hbz⟩
                have HBz : Hid (Below t w w9) := HBr.out.trans (hbz.mono (Nat.le_of_lt HTr.out.lt))
                clear hbz
                go_wp2_with fail
                go_ret
                exact ⟨rfl, HBz.out⟩
          · have HP := hid (sprot_yes wr t L 1 fst 3 s HBl.out.tb HGS.out HF.out (by decide))
            have HA := hid fun W (hW : Rt W r r L) => rat_some 1 fst K s hW hll HKs.out HBg.out HJ.out
            have HG2 := hid (HGS.out.setP 1 fst (o := 3) (by decide))
            have hK0 : (0 : Int) ≤ K := by omega
            go_wp2_with fail
            refine HP.out.mono ?_
            rintro e w5 ⟨rfl, hT5, hO5⟩
            have HT5 := hid hT5
            have HR5 := hid (rt_touch HBl.out.rt HBl.out.lt hO5)
            have HB5 : Hid (Below t w w5) := HBw.out.trans (hO5.below (Nat.le_refl _) HBl.out.lob)
            clear hT5 hO5 HP
            have HA5 := hid (HA.out w5 HR5.out)
            clear HA
            go_wp2_with fail
            refine HA5.out.mono ?_
            rintro e w6 ⟨rfl, hb6⟩
            have HT6 := hid (HT5.out.below hb6)
            have HR6 := hid (HR5.out.below hb6)
            have HB6 : Hid (Below t w w6) := HB5.out.trans (hb6.mono (Nat.le_of_lt HT5.out.lt))
            clear hb6 HA5
            go_wp2_with fail
            go_loopw [13] (fun u wr => ∃ (g : Nat), g ≤ 16 ∧ u = i64 g ∧ Hid (Tb wr t (L.map (setP 1 fst 3))) ∧ Hid (Rt wr r r L) ∧ Hid (Below t w wr)) (fun u _ => 16 - (intOf u).toNat)
            case atStart => exact ⟨0, by omega, rfl, HT6, HR6, HB6⟩
            case round =>
              obtain ⟨g, hg, rfl, HTr, HRr, HBr⟩ := hrel
              by_cases hlt : g < 16
              · have hgI : (g : Int) < 16 := by omega
                have hg0 : (0 : Int) ≤ g := by omega
                have HPt := hid fun W (hW : Tb W t (L.map (setP 1 fst 3))) => smay_ok W t (L.map (setP 1 fst 3)) 1 g true hW HG2.out
                have HPf := hid fun W (hW : Tb W t (L.map (setP 1 fst 3))) => smay_ok W t (L.map (setP 1 fst 3)) 1 g false hW HG2.out
                have HDf := hid fun W (hW : Rt W r r L) => rmay_ok 1 (g : Int) false hW HGS.out
                have HDt := hid fun W (hW : Rt W r r L) => rmay_ok 1 (g : Int) true hW HGS.out
                by_cases hin : fst ≤ (g : Int) ∧ (g : Int) < fst + s.2.2.1
                · have HIN : Hid (mayB (L.map (setP 1 fst 3)) 1 (g : Int) true = true) := (may_in HGS.out HSm.out HBg.out 3 hin.1 hin.2).trans rfl
                  obtain ⟨hi1, hi2⟩ := hin
                  rw [HIN.out] at HPt
                  have hM2 := may_read 1 (g : Int) HIN.out
                  rw [hM2] at HPf
                  rw [← may_setP L 1 fst 3, hM2] at HDf
                  clear hM2
                  obtain ⟨_, aoR, capR, hbkR, hownR⟩ := HRr.out
                  have r0 : wr.cell? ⟨r, 0, none⟩ = some (.slice aoR L.length capR) := blk_cell hbkR 0
                  have hrl := blk_lt hbkR
                  have hcapR := own_cap4 hownR
                  obtain ⟨g0, o0, rfl, hgl, d0, d1, d2, d3⟩ := Rd4.own hownR K s HKs.out
                  have hKI : (K : Int) < L.length := by have := HKL.out; omega
                  have hL24 : L.length ≤ 24 := HL24.out
                  clear hbkR hownR
                  generalize L.length = N at r0 hKI hcapR hL24
                  go_wp2_with fail
                  refine (HPt.out wr HTr.out).mono ?_
                  rintro e wq ⟨rfl, hv⟩
                  replace hv := hv.symm
                  subst hv
                  go_wp2_with fail
                  refine (HPf.out wr HTr.out).mono ?_
                  rintro e wq ⟨rfl, hv⟩
                  replace hv := hv.symm
                  subst hv
                  go_wp2_with fail
                  refine (HPf.out wr HTr.out).mono ?_
                  rintro e wq ⟨rfl, hv⟩
                  replace hv := hv.symm
                  subst hv
                  go_wp2_with fail
                  refine (HDf.out wr HRr.out).mono ?_
                  rintro e q1 ⟨rfl, hb⟩
                  have HT1 := hid (HTr.out.below hb)
                  have HR1 := hid (HRr.out.below hb)
                  have HB1 : Hid (Below t w q1) := HBr.out.trans (hb.mono (Nat.le_of_lt HTr.out.lt))
                  clear hb
                  go_wp2_with fail
                  exact ⟨⟨g + 1, by omega, by go_num, HT1, HR1, HB1⟩, by simp [intOf]; omega⟩
                · have HOFF : Hid (mayB (L.map (setP 1 fst 3)) 1 (g : Int) true = mayB L 1 (g : Int) true) := may_off HGS.out HSm.out HBg.out 3 hin
                  by_cases hi1 : fst ≤ (g : Int)
                  · have hi2 : ¬ (g : Int) < fst + s.2.2.1 := fun h => hin ⟨hi1, h⟩
                    clear hin
                    rw [HOFF.out] at HPt
                    rw [may_setP] at HPf
                    cases hM1 : mayB L 1 (g : Int) true
                    · cases hM2 : mayB L 1 (g : Int) false
                      all_goals
                        rw [hM1] at HPt HDt
                        rw [hM2] at HPf HDf
                        clear hM1 hM2
                        obtain ⟨_, aoR, capR, hbkR, hownR⟩ := HRr.out
                        have r0 : wr.cell? ⟨r, 0, none⟩ = some (.slice aoR L.length capR) := blk_cell hbkR 0
                        have hrl := blk_lt hbkR
                        have hcapR := own_cap4 hownR
                        obtain ⟨g0, o0, rfl, hgl, d0, d1, d2, d3⟩ := Rd4.own hownR K s HKs.out
                        have hKI : (K : Int) < L.length := by have := HKL.out; omega
                        have hL24 : L.length ≤ 24 := HL24.out
                        clear hbkR hownR
                        generalize L.length = N at r0 hKI hcapR hL24
                        go_wp2_with fail
                        refine (HPt.out wr HTr.out).mono ?_
                        rintro e wq ⟨rfl, hv⟩
                        replace hv := hv.symm
                        subst hv
                        go_wp2_with fail
                        refine (HPf.out wr HTr.out).mono ?_
                        rintro e wq ⟨rfl, hv⟩
                        replace hv := hv.symm
                        subst hv
                        go_wp2_with fail
                        refine (HDf.out wr HRr.out).mono ?_
                        rintro e q1 ⟨rfl, hb⟩
                        have HT1 := hid (HTr.out.below hb)
                        have HR1 := hid (HRr.out.below hb)
                        have HB1 : Hid (Below t w q1) := HBr.out.trans (hb.mono (Nat.le_of_lt HTr.out.lt))
                        clear hb
                        go_wp2_with fail
                        refine (HDt.out q1 HR1.out).mono ?_
                        rintro e q2 ⟨rfl, hb⟩
                        have HT2 := hid (HT1.out.below hb)
                        have HR2 := hid (HR1.out.below hb)
                        have HB2 : Hid (Below t w q2) := HB1.out.trans (hb.mono (Nat.le_of_lt HT1.out.lt))
                        clear hb
                        go_wp2_with fail
                        exact ⟨⟨g + 1, by omega, by go_num, HT2, HR2, HB2⟩, by simp [intOf]; omega⟩
                    · have hM2 := may_read 1 (g : Int) hM1
                      rw [hM1] at HPt HDt
                      rw [hM2] at HPf HDf
                      clear hM1 hM2
                      obtain ⟨_, aoR, capR, hbkR, hownR⟩ := HRr.out
                      have r0 : wr.cell? ⟨r, 0, none⟩ = some (.slice aoR L.length capR) := blk_cell hbkR 0
                      have hrl := blk_lt hbkR
                      have hcapR := own_cap4 hownR
                      obtain ⟨g0, o0, rfl, hgl, d0, d1, d2, d3⟩ := Rd4.own hownR K s HKs.out
                      have hKI : (K : Int) < L.length := by have := HKL.out; omega
                      have hL24 : L.length ≤ 24 := HL24.out
                      clear hbkR hownR
                      generalize L.length = N at r0 hKI hcapR hL24
                      go_wp2_with fail
                      refine (HPt.out wr HTr.out).mono ?_
                      rintro e wq ⟨rfl, hv⟩
                      replace hv := hv.symm
                      subst hv
                      go_wp2_with fail
                      refine (HPf.out wr HTr.out).mono ?_
                      rintro e wq ⟨rfl, hv⟩
                      replace hv := hv.symm
                      subst hv
                      go_wp2_with fail
                      refine (HPf.out wr HTr.out).mono ?_
                      rintro e wq ⟨rfl, hv⟩
                      replace hv := hv.symm
                      subst hv
                      go_wp2_with fail
                      refine (HDf.out wr HRr.out).mono ?_
                      rintro e q1 ⟨rfl, hb⟩
                      have HT1 := hid (HTr.out.below hb)
                      have HR1 := hid (HRr.out.below hb)
                      have HB1 : Hid (Below t w q1) := HBr.out.trans (hb.mono (Nat.le_of_lt HTr.out.lt))
                      clear hb
                      go_wp2_with fail
                      refine (HDt.out q1 HR1.out).mono ?_
                      rintro e q2 ⟨rfl, hb⟩
                      have HT2 := hid (HT1.out.below hb)
                      have HR2 := hid (HR1.out.below hb)
                      have HB2 : Hid (Below t w q2) := HB1.out.trans (hb.mono (Nat.le_of_lt HT1.out.lt))
                      clear hb
                      go_wp2_with fail
                      exact ⟨⟨g + 1, by omega, by go_num, HT2, HR2, HB2⟩, by simp [intOf]; omega⟩
                  · clear hin
                    rw [HOFF.out] at HPt
                    rw [may_setP] at HPf
                    cases hM1 : mayB L 1 (g : Int) true
                    · cases hM2 : mayB L 1 (g : Int) false
                      all_goals
                        rw [hM1] at HPt HDt
                        rw [hM2] at HPf HDf
                        clear hM1 hM2
                        obtain ⟨_, aoR, capR, hbkR, hownR⟩ := HRr.out
                        have r0 : wr.cell? ⟨r, 0, none⟩ = some (.slice aoR L.length capR) := blk_cell hbkR 0
                        have hrl := blk_lt hbkR
                        have hcapR := own_cap4 hownR
                        obtain ⟨g0, o0, rfl, hgl, d0, d1, d2, d3⟩ := Rd4.own hownR K s HKs.out
                        have hKI : (K : Int) < L.length := by have := HKL.out; omega
                        have hL24 : L.length ≤ 24 := HL24.out
                        clear hbkR hownR
                        generalize L.length = N at r0 hKI hcapR hL24
                        go_wp2_with fail
                        refine (HPt.out wr HTr.out).mono ?_
                        rintro e wq ⟨rfl, hv⟩
                        replace hv := hv.symm
                        subst hv
                        go_wp2_with fail
                        refine (HPf.out wr HTr.out).mono ?_
                        rintro e wq ⟨rfl, hv⟩
                        replace hv := hv.symm
                        subst hv
                        go_wp2_with fail
                        refine (HDf.out wr HRr.out).mono ?_
                        rintro e q1 ⟨rfl, hb⟩
                        have HT1 := hid (HTr.out.below hb)
                        have HR1 := hid (HRr.out.below hb)
                        have HB1 : Hid (Below t w q1) := HBr.out.trans (hb.mono (Nat.le_of_lt HTr.out.lt))
                        clear hb
                        go_wp2_with fail
                        refine (HDt.out q1 HR1.out).mono ?_
                        rintro e q2 ⟨rfl, hb⟩
                        have HT2 := hid (HT1.out.below hb)
                        have HR2 := hid (HR1.out.below hb)
                        have HB2 : Hid (Below t w q2) := HB1.out.trans (hb.mono (Nat.le_of_lt HT1.out.lt))
                        clear hb
                        go_wp2_with fail
                        exact ⟨⟨g + 1, by omega, by go_num, HT2, HR2, HB2⟩, by simp [intOf]; omega⟩
                    · have hM2 := may_read 1 (g : Int) hM1
                      rw [hM1] at HPt HDt
                      rw [hM2] at HPf HDf
                      clear hM1 hM2
                      obtain ⟨_, aoR, capR, hbkR, hownR⟩ := HRr.out
                      have r0 : wr.cell? ⟨r, 0, none⟩ = some (.slice aoR L.length capR) := blk_cell hbkR 0
                      have hrl := blk_lt hbkR
                      have hcapR := own_cap4 hownR
                      obtain ⟨g0, o0, rfl, hgl, d0, d1, d2, d3⟩ := Rd4.own hownR K s HKs.out
                      have hKI : (K : Int) < L.length := by have := HKL.out; omega
                      have hL24 : L.length ≤ 24 := HL24.out
                      clear hbkR hownR
                      generalize L.length = N at r0 hKI hcapR hL24
                      go_wp2_with fail
                      refine (HPt.out wr HTr.out).mono ?_
                      rintro e wq ⟨rfl, hv⟩
                      replace hv := hv.symm
                      subst hv
                      go_wp2_with fail
                      refine (HPf.out wr HTr.out).mono ?_
                      rintro e wq ⟨rfl, hv⟩
                      replace hv := hv.symm
                      subst hv
                      go_wp2_with fail
                      refine (HPf.out wr HTr.out).mono ?_
                      rintro e wq ⟨rfl, hv⟩
                      replace hv := hv.symm
                      subst hv
                      go_wp2_with fail
                      refine (HDf.out wr HRr.out).mono ?_
                      rintro e q1 ⟨rfl, hb⟩
                      have HT1 := hid (HTr.out.below hb)
                      have HR1 := hid (HRr.out.below hb)
                      have HB1 : Hid (Below t w q1) := HBr.out.trans (hb.mono (Nat.le_of_lt HTr.out.lt))
                      clear hb
                      go_wp2_with fail
                      refine (HDt.out q1 HR1.out).mono ?_
                      rintro e q2 ⟨rfl, hb⟩
                      have HT2 := hid (HT1.out.below hb)
                      have HR2 := hid (HR1.out.below hb)
                      have HB2 : Hid (Below t w q2) := HB1.out.trans (hb.mono (Nat.le_of_lt HT1.out.lt))
                      clear hb
                      go_wp2_with fail
                      exact ⟨⟨g + 1, by omega, by go_num, HT2, HR2, HB2⟩, by simp [intOf]; omega⟩
              · have hgI : ¬ (g : Int) < 16 := by omega
                go_wp2_with fail
                refine (four_ok wr).mono ?_
                rintro e w9 ⟨rfl, hbz⟩
                have HBz : Hid (Below t w w9) := HBr.out.trans (hbz.mono (Nat.le_of_lt HTr.out.lt))
                clear hbz
                go_wp2_with fail
                go_ret
                exact ⟨rfl, HBz.out⟩
        · have HP := hid (sprot_arg wr t L 1 fst prot s HBl.out.tb HGS.out HF.out ho)
          have HA := hid fun W (hW : Rt W r r L) => rat_some 1 fst K s hW hll HKs.out HBg.out HJ.out
          have HG2 := HGS
          have q1 : (prot != 1) = true := by simp only [bne_iff_ne, ne_eq]; omega
          have q3 : (prot != 3) = true := by simp only [bne_iff_ne, ne_eq]; omega
          have q1b : (prot == 1) = false := by simp only [beq_eq_false_iff_ne, ne_eq]; omega
          have q3b : (prot == 3) = false := by simp only [beq_eq_false_iff_ne, ne_eq]; omega
          clear ho
          have hK0 : (0 : Int) ≤ K := by omega
          go_wp2_with fail
          refine HP.out.mono ?_
          rintro e w5 ⟨rfl, hb5⟩
          have HT5 := hid (HBl.out.tb.below hb5)
          have HR5 := hid (HBl.out.rt.below hb5)
          have HB5 : Hid (Below t w w5) := HBw.out.trans (hb5.mono HBl.out.lob)
          clear hb5 HP
          have HA5 := hid (HA.out w5 HR5.out)
          clear HA
          go_wp2_with fail
          refine HA5.out.mono ?_
          rintro e w6 ⟨rfl, hb6⟩
          have HT6 := hid (HT5.out.below hb6)
          have HR6 := hid (HR5.out.below hb6)
          have HB6 : Hid (Below t w w6) := HB5.out.trans (hb6.mono (Nat.le_of_lt HT5.out.lt))
          clear hb6 HA5
          go_wp2_with fail
          go_loopw [13] (fun u wr => ∃ (g : Nat), g ≤ 16 ∧ u = i64 g ∧ Hid (Tb wr t L) ∧ Hid (Rt wr r r L) ∧ Hid (Below t w wr)) (fun u _ => 16 - (intOf u).toNat)
          case atStart => exact ⟨0, by omega, rfl, HT6, HR6, HB6⟩
          case round =>
            obtain ⟨g, hg, rfl, HTr, HRr, HBr⟩ := hrel
            by_cases hlt : g < 16
            · have hgI : (g : Int) < 16 := by omega
              have hg0 : (0 : Int) ≤ g := by omega
              have HPt := hid fun W (hW : Tb W t L) => smay_ok W t L 1 g true hW HG2.out
              have HPf := hid fun W (hW : Tb W t L) => smay_ok W t L 1 g false hW HG2.out
              have HDf := hid fun W (hW : Rt W r r L) => rmay_ok 1 (g : Int) false hW HGS.out
              have HDt := hid fun W (hW : Rt W r r L) => rmay_ok 1 (g : Int) true hW HGS.out
              by_cases hin : fst ≤ (g : Int) ∧ (g : Int) < fst + s.2.2.1
              · obtain ⟨hi1, hi2⟩ := hin
                cases hM1 : mayB L 1 (g : Int) true
                · cases hM2 : mayB L 1 (g : Int) false
                  all_goals
                    rw [hM1] at HPt HDt
                    rw [hM2] at HPf HDf
                    clear hM1 hM2
                    obtain ⟨_, aoR, capR, hbkR, hownR⟩ := HRr.out
                    have r0 : wr.cell? ⟨r, 0, none⟩ = some (.slice aoR L.length capR) := blk_cell hbkR 0
                    have hrl := blk_lt hbkR
                    have hcapR := own_cap4 hownR
                    obtain ⟨g0, o0, rfl, hgl, d0, d1, d2, d3⟩ := Rd4.own hownR K s HKs.out
                    have hKI : (K : Int) < L.length := by have := HKL.out; omega
                    have hL24 : L.length ≤ 24 := HL24.out
                    clear hbkR hownR
                    generalize L.length = N at r0 hKI hcapR hL24
                    go_wp2_with fail
                    refine (HPt.out wr HTr.out).mono ?_
                    rintro e wq ⟨rfl, hv⟩
                    replace hv := hv.symm
                    subst hv
                    go_wp2_with fail
                    refine (HPf.out wr HTr.out).mono ?_
                    rintro e wq ⟨rfl, hv⟩
                    replace hv := hv.symm
                    subst hv
                    go_wp2_with fail
                    refine (HDf.out wr HRr.out).mono ?_
                    rintro e q1 ⟨rfl, hb⟩
                    have HT1 := hid (HTr.out.below hb)
                    have HR1 := hid (HRr.out.below hb)
                    have HB1 : Hid (Below t w q1) := HBr.out.trans (hb.mono (Nat.le_of_lt HTr.out.lt))
                    clear hb
                    go_wp2_with fail
                    refine (HDt.out q1 HR1.out).mono ?_
                    rintro e q2 ⟨rfl, hb⟩
                    have HT2 := hid (HT1.out.below hb)
                    have HR2 := hid (HR1.out.below hb)
                    have HB2 : Hid (Below t w q2) := HB1.out.trans (hb.mono (Nat.le_of_lt HT1.out.lt))
                    clear hb
                    go_wp2_with fail
                    exact ⟨⟨g + 1, by omega, by go_num, HT2, HR2, HB2⟩, by simp [intOf]; omega⟩
                · have hM2 := may_read 1 (g : Int) hM1
                  rw [hM1] at HPt HDt
                  rw [hM2] at HPf HDf
                  clear hM1 hM2
                  obtain ⟨_, aoR, capR, hbkR, hownR⟩ := HRr.out
                  have r0 : wr.cell? ⟨r, 0, none⟩ = some (.slice aoR L.length capR) := blk_cell hbkR 0
                  have hrl := blk_lt hbkR
                  have hcapR := own_cap4 hownR
                  obtain ⟨g0, o0, rfl, hgl, d0, d1, d2, d3⟩ := Rd4.own hownR K s HKs.out
                  have hKI : (K : Int) < L.length := by have := HKL.out; omega
                  have hL24 : L.length ≤ 24 := HL24.out
                  clear hbkR hownR
                  generalize L.length = N at r0 hKI hcapR hL24
                  go_wp2_with fail
                  refine (HPt.out wr HTr.out).mono ?_
                  rintro e wq ⟨rfl, hv⟩
                  replace hv := hv.symm
                  subst hv
                  go_wp2_with fail
                  refine (HPf.out wr HTr.out).mono ?_
                  rintro e wq ⟨rfl, hv⟩
                  replace hv := hv.symm
                  subst hv
                  go_wp2_with fail
                  refine (HPf.out wr HTr.out).mono ?_
                  rintro e wq ⟨rfl, hv⟩
                  replace hv := hv.symm
                  subst hv
                  go_wp2_with fail
                  refine (HDf.out wr HRr.out).mono ?_
                  rintro e q1 ⟨rfl, hb⟩
                  have HT1 := hid (HTr.out.below hb)
                  have HR1 := hid (HRr.out.below hb)
                  have HB1 : Hid (Below t w q1) := HBr.out.trans (hb.mono (Nat.le_of_lt HTr.out.lt))
                  clear hb
                  go_wp2_with fail
                  refine (HDt.out q1 HR1.out).mono ?_
                  rintro e q2 ⟨rfl, hb⟩
                  have HT2 := hid (HT1.out.below hb)
                  have HR2 := hid (HR1.out.below hb)
                  have HB2 : Hid (Below t w q2) := HB1.out.trans (hb.mono (Nat.le_of_lt HT1.out.lt))
                  clear hb
                  go_wp2_with fail
                  exact ⟨⟨g + 1, by omega, by go_num, HT2, HR2, HB2⟩, by simp [intOf]; omega⟩
              · by_cases hi1 : fst ≤ (g : Int)
                · have hi2 : ¬ (g : Int) < fst + s.2.2.1 := fun h => hin ⟨hi1, h⟩
                  clear hin
                  cases hM1 : mayB L 1 (g : Int) true
                  · cases hM2 : mayB L 1 (g : Int) false
                    all_goals
                      rw [hM1] at HPt HDt
                      rw [hM2] at HPf HDf
                      clear hM1 hM2
                      obtain ⟨_, aoR, capR, hbkR, hownR⟩ := HRr.out
                      have r0 : wr.cell? ⟨r, 0, none⟩ = some (.slice aoR L.length capR) := blk_cell hbkR 0
                      have hrl := blk_lt hbkR
                      have hcapR := own_cap4 hownR
                      obtain ⟨g0, o0, rfl, hgl, d0, d1, d2, d3⟩ := Rd4.own hownR K s HKs.out
                      have hKI : (K : Int) < L.length := by have := HKL.out; omega
                      have hL24 : L.length ≤ 24 := HL24.out
                      clear hbkR hownR
                      generalize L.length = N at r0 hKI hcapR hL24
                      go_wp2_with fail
                      refine (HPt.out wr HTr.out).mono ?_
                      rintro e wq ⟨rfl, hv⟩
                      replace hv := hv.symm
                      subst hv
                      go_wp2_with fail
                      refine (HPf.out wr HTr.out).mono ?_
                      rintro e wq ⟨rfl, hv⟩
                      replace hv := hv.symm
                      subst hv
                      go_wp2_with fail
                      refine (HDf.out wr HRr.out).mono ?_
                      rintro e q1 ⟨rfl, hb⟩
                      have HT1 := hid (HTr.out.below hb)
                      have HR1 := hid (HRr.out.below hb)
                      have HB1 : Hid (Below t w q1) := HBr.out.trans (hb.mono (Nat.le_of_lt HTr.out.lt))
                      clear hb
                      go_wp2_with fail
                      refine (HDt.out q1 HR1.out).mono ?_
                      rintro e q2 ⟨rfl, hb⟩
                      have HT2 := hid (HT1.out.below hb)
                      have HR2 := hid (HR1.out.below hb)
                      have HB2 : Hid (Below t w q2) := HB1.out.trans (hb.mono (Nat.le_of_lt HT1.out.lt))
                      clear hb
                      go_wp2_with fail
                      exact ⟨⟨g + 1, by omega, by go_num, HT2, HR2, HB2⟩, by simp [intOf]; omega⟩
                  · have hM2 := may_read 1 (g : Int) hM1
                    rw [hM1] at HPt HDt
                    rw [hM2] at HPf HDf
                    clear hM1 hM2
                    obtain ⟨_, aoR, capR, hbkR, hownR⟩ := HRr.out
                    have r0 : wr.cell? ⟨r, 0, none⟩ = some (.slice aoR L.length capR) := blk_cell hbkR 0
                    have hrl := blk_lt hbkR
                    have hcapR := own_cap4 hownR
                    obtain ⟨g0, o0, rfl, hgl, d0, d1, d2, d3⟩ := Rd4.own hownR K s HKs.out
                    have hKI : (K : Int) < L.length := by have := HKL.out; omega
                    have hL24 : L.length ≤ 24 := HL24.out
                    clear hbkR hownR
                    generalize L.length = N at r0 hKI hcapR hL24
                    go_wp2_with fail
                    refine (HPt.out wr HTr.out).mono ?_
                    rintro e wq ⟨rfl, hv⟩
                    replace hv := hv.symm
                    subst hv
                    go_wp2_with fail
                    refine (HPf.out wr HTr.out).mono ?_
                    rintro e wq ⟨rfl, hv⟩
                    replace hv := hv.symm
                    subst hv
                    go_wp2_with fail
                    refine (HPf.out wr HTr.out).mono ?_
                    rintro e wq ⟨rfl, hv⟩
                    replace hv := hv.symm
                    subst hv
                    go_wp2_with fail
                    refine (HDf.out wr HRr.out).mono ?_
                    rintro e q1 ⟨rfl, hb⟩
                    have HT1 := hid (HTr.out.below hb)
                    have HR1 := hid (HRr.out.below hb)
                    have HB1 : Hid (Below t w q1) := HBr.out.trans (hb.mono (Nat.le_of_lt HTr.out.lt))
                    clear hb
                    go_wp2_with fail
                    refine (HDt.out q1 HR1.out).mono ?_
                    rintro e q2 ⟨rfl, hb⟩
                    have HT2 := hid (HT1.out.below hb)
                    have HR2 := hid (HR1.out.below hb)
                    have HB2 : Hid (Below t w q2) := HB1.out.trans (hb.mono (Nat.le_of_lt HT1.out.lt))
                    clear hb
                    go_wp2_with fail
                    exact ⟨⟨g + 1, by omega, by go_num, HT2, HR2, HB2⟩, by simp [intOf]; omega⟩
                · clear hin
                  cases hM1 : mayB L 1 (g : Int) true
                  · cases hM2 : mayB L 1 (g : Int) false
                    all_goals
                      rw [hM1] at HPt HDt
                      rw [hM2] at HPf HDf
                      clear hM1 hM2
                      obtain ⟨_, aoR, capR, hbkR, hownR⟩ := HRr.out
                      have r0 : wr.cell? ⟨r, 0, none⟩ = some (.slice aoR L.length capR) := blk_cell hbkR 0
                      have hrl := blk_lt hbkR
                      have hcapR := own_cap4 hownR
                      obtain ⟨g0, o0, rfl, hgl, d0, d1, d2, d3⟩ := Rd4.own hownR K s HKs.out
                      have hKI : (K : Int) < L.length := by have := HKL.out; omega
                      have hL24 : L.length ≤ 24 := HL24.out
                      clear hbkR hownR
                      generalize L.length = N at r0 hKI hcapR hL24
                      go_wp2_with fail
                      refine (HPt.out wr HTr.out).mono ?_
                      rintro e wq ⟨rfl, hv⟩
                      replace hv := hv.symm
                      subst hv
                      go_wp2_with fail
                      refine (HPf.out wr HTr.out).mono ?_
                      rintro e wq ⟨rfl, hv⟩
                      replace hv := hv.symm
                      subst hv
                      go_wp2_with fail
                      refine (HDf.out wr HRr.out).mono ?_
                      rintro e q1 ⟨rfl, hb⟩
                      have HT1 := hid (HTr.out.below hb)
                      have HR1 := hid (HRr.out.below hb)
                      have HB1 : Hid (Below t w q1) := HBr.out.trans (hb.mono (Nat.le_of_lt HTr.out.lt))
                      clear hb
                      go_wp2_with fail
                      refine (HDt.out q1 HR1.out).mono ?_
                      rintro e q2 ⟨rfl, hb⟩
                      have HT2 := hid (HT1.out.below hb)
                      have HR2 := hid (HR1.out.below hb)
                      have HB2 : Hid (Below t w q2) := HB1.out.trans (hb.mono (Nat.le_of_lt HT1.out.lt))
                      clear hb
                      go_wp2_with fail
                      exact ⟨⟨g + 1, by omega, by go_num, HT2, HR2, HB2⟩, by simp [intOf]; omega⟩
                  · have hM2 := may_read 1 (g : Int) hM1
                    rw [hM1] at HPt HDt
                    rw [hM2] at HPf HDf
                    clear hM1 hM2
                    obtain ⟨_, aoR, capR, hbkR, hownR⟩ := HRr.out
                    have r0 : wr.cell? ⟨r, 0, none⟩ = some (.slice aoR L.length capR) := blk_cell hbkR 0
                    have hrl := blk_lt hbkR
                    have hcapR := own_cap4 hownR
                    obtain ⟨g0, o0, rfl, hgl, d0, d1, d2, d3⟩ := Rd4.own hownR K s HKs.out
                    have hKI : (K : Int) < L.length := by have := HKL.out; omega
                    have hL24 : L.length ≤ 24 := HL24.out
                    clear hbkR hownR
                    generalize L.length = N at r0 hKI hcapR hL24
                    go_wp2_with fail
                    refine (HPt.out wr HTr.out).mono ?_
                    rintro e wq ⟨rfl, hv⟩
                    replace hv := hv.symm
                    subst hv
                    go_wp2_with fail
                    refine (HPf.out wr HTr.out).mono ?_
                    rintro e wq ⟨rfl, hv⟩
                    replace hv := hv.symm
                    subst hv
                    go_wp2_with fail
                    refine (HPf.out wr HTr.out).mono ?_
                    rintro e wq ⟨rfl, hv⟩
                    replace hv := hv.symm
                    subst hv
                    go_wp2_with fail
                    refine (HDf.out wr HRr.out).mono ?_
                    rintro e q1 ⟨rfl, hb⟩
                    have HT1 := hid (HTr.out.below hb)
                    have HR1 := hid (HRr.out.below hb)
                    have HB1 : Hid (Below t w q1) := HBr.out.trans (hb.mono (Nat.le_of_lt HTr.out.lt))
                    clear hb
                    go_wp2_with fail
                    refine (HDt.out q1 HR1.out).mono ?_
                    rintro e q2 ⟨rfl, hb⟩
                    have HT2 := hid (HT1.out.below hb)
                    have HR2 := hid (HR1.out.below hb)
                    have HB2 : Hid (Below t w q2) := HB1.out.trans (hb.mono (Nat.le_of_lt HT1.out.lt))
                    clear hb
                    go_wp2_with fail
                    exact ⟨⟨g + 1, by omega, by go_num, HT2, HR2, HB2⟩, by simp [intOf]; omega⟩
            · have hgI : ¬ (g : Int) < 16 := by omega
              go_wp2_with fail
              refine (four_ok wr).mono ?_
              rintro e w9 ⟨rfl, hbz⟩
              have HBz : Hid (Below t w w9) := HBr.out.trans (hbz.mono (Nat.le_of_lt HTr.out.lt))
              clear hbz
              go_wp2_with fail
              go_ret
              exact ⟨rfl, HBz.out⟩
end Go.Proofs.Ytlkcpjefgelcoaa
