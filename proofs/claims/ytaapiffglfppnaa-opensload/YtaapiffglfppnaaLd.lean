/- Load; no statement is proved in this text. -/
import Derived.Test.YtaapiffglfppnaaLq
import Derived.Test.YtaapiffglfppnaaNi
namespace Go.Proofs.Ytaapiffglfppnaa
open Go.ChangeShapes Go.WideShapes Go.ChangeAt Go.RowKit Go.Deep
attribute [local go_sem ↓] Go.wp_at_zero Go.wp_at_succ

theorem right_true {O : List Op4} {S : List Sl3} {e : Ending} (h : RightD O S) (he : RightE O S e) : e = .returned (.bool true) := by
  obtain ⟨v, rfl, hv⟩ := he
  rw [hv.2 h]
theorem right_false {O : List Op4} {S : List Sl3} {e : Ending} (h : ¬ RightD O S) (he : RightE O S e) : e = .returned (.bool false) := by
  obtain ⟨v, rfl, hv⟩ := he
  cases v with
  | true => exact absurd (hv.1 rfl) h
  | false => rfl
theorem GotB.op {w w' : World} {e : Ending} {A : Tab} {V : Nat → Op4} (h : Jn A V) (hg : GotB w w' e (nmL A V)) : ∃ ao cap, e = .returned (.slice ao (opL A V).length cap) ∧ Rd4 w' ao (opL A V) ∧ (opL A V).length ≤ cap := by
  obtain ⟨ao, cap, M, rfl, hp, hs, hR, hc⟩ := hg
  obtain rfl := opens_eq h hp hs
  exact ⟨ao, cap, rfl, hR, hc⟩
/-- A row of numbers does not lie in a table. -/
theorem rd_ne {w : World} {t : Nat} {A : Tab} {V : Nat → Op4} {ao : Option Addr} {M : List Op4} (h : Tg w t A V) (hR : Rd4 w ao M) {i : Nat} {a : Op4} (hi : M[i]? = some a) : ∃ g o, ao = some ⟨g, o, none⟩ ∧ g ≠ t := by
  obtain ⟨g, o, rfl, _, c0, _⟩ := hR i a hi
  refine ⟨g, o, rfl, fun e => ?_⟩
  subst e
  rw [blk_cell h.blk] at c0
  have hl : o + i * 4 < 36 := by
    have := (Array.getElem?_eq_some_iff.1 c0).1
    rw [pcs_size] at this
    exact this
  rw [List.getElem?_toArray, pcs_get A _ hl] at c0
  cases hA : A ((o + i * 4) / 6) ((o + i * 4) % 6) with
  | none => rw [hA] at c0; simp [pv] at c0
  | some b => rw [hA] at c0; simp [pv] at c0
theorem Rd4.touch {w w' : World} {t : Nat} {A : Tab} {V : Nat → Op4} {ao : Option Addr} {M : List Op4} (h : Tg w t A V) (hR : Rd4 w ao M) (ho : Touch t w w') : Rd4 w' ao M := fun i a hi => by
  obtain ⟨g1, o1, he, hne⟩ := rd_ne h hR hi
  obtain ⟨g, o, rfl, hl, c0, c1, c2, c3⟩ := hR i a hi
  cases he
  have hs := ho.size
  refine ⟨_, _, rfl, by omega, ?_, ?_, ?_, ?_⟩
  · rw [ho.cell (by exact hl) (by exact hne)]; exact c0
  · rw [ho.cell (by exact hl) (by exact hne)]; exact c1
  · rw [ho.cell (by exact hl) (by exact hne)]; exact c2
  · rw [ho.cell (by exact hl) (by exact hne)]; exact c3
/-- What Load answers. -/
def LoadE (O : List Op4) (S : List Sl3) (b : Nat) (w' : World) (e : Ending) : Prop := (¬ RightD O S ∧ e = .returned (.tuple #[.pointer none, i64 4])) ∨ (RightD O S ∧ ∃ t A V, e = .returned (.tuple #[pq t, i64 0]) ∧ b ≤ t ∧ Jn A V ∧ Tg w' t A V ∧ (∀ x, x ∈ opL A V ↔ x ∈ O) ∧ (∀ s, s ∈ slL A V ↔ s ∈ S) ∧ (opL A V).length = O.length ∧ (slL A V).length = S.length)
theorem LoadE.no {O : List Op4} {S : List Sl3} {b : Nat} {w' : World} (h : ¬ RightD O S) : LoadE O S b w' (.returned (.tuple #[.pointer none, i64 4])) := .inl ⟨h, rfl⟩
set_option maxRecDepth 100000 in
set_option maxHeartbeats 6400000 in
theorem load_ok (w : World) (ao1 ao2 : Option Addr) (cap1 cap2 : Nat) (O : List Op4) (S : List Sl3) (hlO : O.length ≤ 100) (hlS : S.length ≤ 100) (hO : Rd4 w ao1 O) (hS : Rd3 w ao2 S) : Calls Try.prog 23 #[.slice ao1 O.length cap1, .slice ao2 S.length cap2] w fun e w' => LoadE O S w.heap.size w' e ∧ Below w.heap.size w w' := by
  have HC1 := hid (ncont_ok w ao1 cap1 O (fun y => !openB y) (by omega) hO fun W y _ _ => noOpen_ok W y)
  have HC2 : Hid (∀ W, Below w.heap.size w W → _) := fun W hW => mcont_ok W ao2 cap2 S (fun y => !slotB y) (by omega) (hS.below hW) fun W y _ _ => noSlot_ok W y
  have HPl : Hid (∀ W, Below w.heap.size w W → _) := fun W hW => byPlace_ok W ao2 cap2 S hlS (hS.below hW)
  have HByI : Hid (∀ W, (∀ x ∈ O, 0 ≤ x.1 ∧ x.1 < 36) → Below w.heap.size w W → _) := fun W hr hW => byid_ok W ao1 cap1 O hlO hr (hO.below hW)
  obtain ⟨n, hn⟩ : ∃ n, n = O.length := ⟨_, rfl⟩
  have HnO := hid hn
  obtain ⟨m, hm⟩ : ∃ m, m = S.length := ⟨_, rfl⟩
  have HnS := hid hm
  rw [← hn] at hlO HC1 HByI ⊢
  rw [← hm] at hlS HC2 HPl ⊢
  obtain ⟨b, hb⟩ : ∃ b, b = w.heap.size := ⟨_, rfl⟩
  have HW0 := hid hb
  rw [← hb] at HC1 HC2 HPl HByI ⊢
  clear hO hS hn hm
  cases hA : O.any (fun y => !openB y) with
  | true =>
    have HNR : Hid (¬ RightD O S) := by
      obtain ⟨x, hx, h1⟩ := List.any_eq_true.1 hA
      exact not_open hx (by simpa using h1)
    rw [hA] at HC1
    clear hA HC2 HPl HByI
    go_enter Try.func23, Try.ntmps23
    go_wp2_with fail
    refine HC1.out.mono ?_
    rintro e w1 ⟨rfl, hb1⟩
    have HB1 := hid hb1
    clear hb1 HC1
    go_wp2_with fail
    go_ret2
    exact ⟨.no HNR.out, HB1.out⟩
  | false =>
    have HA : Hid (∀ x ∈ O, openB x = true) := fun x hx => by
      have := List.any_eq_false.1 hA x hx
      simpa using this
    rw [hA] at HC1
    clear hA
    cases hD : S.any (fun y => !slotB y) with
    | true =>
      have HNR : Hid (¬ RightD O S) := by
        obtain ⟨x, hx, h1⟩ := List.any_eq_true.1 hD
        exact not_slot hx (by simpa using h1)
      rw [hD] at HC2
      clear hD HPl HByI
      go_enter Try.func23, Try.ntmps23
      go_wp2_with fail
      refine HC1.out.mono ?_
      rintro e w1 ⟨rfl, hb1⟩
      have HB1 := hid hb1
      have HC3 := hid (HC2.out w1 HB1.out)
      clear hb1 HC1 HC2
      go_wp2_with fail
      refine HC3.out.mono ?_
      rintro e w2 ⟨rfl, hb2⟩
      have HB2 : Hid (Below b w w2) := HB1.out.trans (hb2.mono (by rw [HW0.out]; exact HB1.out.size))
      clear hb2 HC3
      go_wp2_with fail
      go_ret2
      exact ⟨.no HNR.out, HB2.out⟩
    | false =>
      have HD : Hid (∀ x ∈ S, slotB x = true) := fun x hx => by
        have := List.any_eq_false.1 hD x hx
        simpa using this
      rw [hD] at HC2
      clear hD
      have HRg : Hid (∀ x ∈ O, 0 ≤ x.1 ∧ x.1 < 36) := fun x hx => by
        have := HA.out x hx
        unfold openB at this
        rw [Bool.and_eq_true, decide_eq_true_eq] at this
        exact this.1
      go_enter Try.func23, Try.ntmps23
      go_wp2_with fail
      refine HC1.out.mono ?_
      rintro e w1 ⟨rfl, hb1⟩
      have HB1 := hid hb1
      have HC3 := hid (HC2.out w1 HB1.out)
      clear hb1 HC1 HC2
      go_wp2_with fail
      refine HC3.out.mono ?_
      rintro e w2 ⟨rfl, hb2⟩
      have HB2 : Hid (Below b w w2) := HB1.out.trans (hb2.mono (by rw [HW0.out]; exact HB1.out.size))
      have HNw := hid (new_ok w2 V0)
      clear hb2 HC3 HB1
      go_wp2_with fail
      refine HNw.out.mono ?_
      rintro e w3 ⟨rfl, hT3, hb3⟩
      have HB3 : Hid (Below b w w3) := HB2.out.trans (hb3.mono (by rw [HW0.out]; exact HB2.out.size))
      have hbt : b ≤ w2.heap.size := by rw [HW0.out]; exact HB2.out.size
      obtain ⟨t, ht⟩ : ∃ t, t = w2.heap.size := ⟨_, rfl⟩
      rw [← ht] at hT3 hbt ⊢
      have HT3 := hid hT3
      have HP3 := hid (HPl.out w3 HB3.out)
      clear hb3 hT3 HNw ht HPl HB2
      go_wp2_with fail
      refine HP3.out.mono ?_
      rintro e w4 ⟨⟨au, cu, rfl, hown4⟩, hb4⟩
      have HB4 : Hid (Below b w w4) := HB3.out.trans (hb4.mono (Nat.le_of_lt (Nat.lt_of_le_of_lt hbt HT3.out.lt)))
      have HT4 := hid (HT3.out.below hb4)
      have HO4 := hid hown4
      have htB : t < w3.heap.size := HT3.out.lt
      obtain ⟨B, hB⟩ : ∃ B, B = w3.heap.size := ⟨_, rfl⟩
      rw [← hB] at HO4 htB
      have HUb : Hid (∀ s ∈ apLs S, slotB s = true) := fun s hs => HD.out s (apLs_sub hs)
      have HUp : Hid ((apLs S).Pairwise unP) := aps_pw S [] .nil
      have HUl : Hid ((apLs S).length ≤ 100) := by
        have h1 := sub_len (α := Sl3) (L := apLs S) (M := S) (HUp.out.imp fun {a b} hab e => hab ⟨by rw [e], by rw [e]⟩) fun x hx => apLs_sub hx
        rw [← HnS.out] at h1
        exact Nat.le_trans h1 hlS
      have HLs : Hid (∀ A V X, Ldd A V X (apLs S) → Jn A V → X.Perm (apL O) → (RightD O S → (∀ x, x ∈ opL A V ↔ x ∈ O) ∧ (∀ s, s ∈ slL A V ↔ s ∈ S) ∧ (opL A V).length = n ∧ (slL A V).length = m) ∧ (¬ RightD O S → (opL A V).length < n ∨ (slL A V).length < m)) := fun A V X h hJ hX => ⟨fun hR => by
        rw [HnO.out, HnS.out]
        obtain ⟨h1, h2⟩ := load_right h hJ hX HD.out hR
        obtain ⟨h3, h4⟩ := load_len h hJ hX HD.out hR
        exact ⟨h1, h2, h3, h4⟩, fun hR => by
        rw [HnO.out, HnS.out]
        exact load_less h hJ hX hR⟩
      generalize apLs S = U at *
      have HI4 := hid (HByI.out w4 HRg.out HB4.out)
      clear hb4 hown4 HP3 HT3 HB3 hB HByI
      go_wp2_with fail
      refine HI4.out.mono ?_
      rintro e w5 ⟨⟨ag, cg, M, rfl, hp, _, hR5, hcg⟩, hb5⟩
      have HB5 : Hid (Below b w w5) := HB4.out.trans (hb5.mono (Nat.le_of_lt (Nat.lt_of_le_of_lt hbt HT4.out.lt)))
      have HT5 := hid (HT4.out.below hb5)
      have HR5 := hid hR5
      have HO5 := hid (own_keep1 HO4.out fun q hq => hb5.block q (HO4.out.lt q hq).2)
      have HPm := hid hp
      have HMo : Hid (∀ x ∈ M, openB x = true) := fun x hx => HA.out x (apL_sub (hp.mem_iff.1 hx))
      have HMi : Hid (M.Pairwise unI) := hp.symm.pairwise (ap_ids O [] .nil) unI_symm
      have HMl : Hid (M.length ≤ 100) := by
        have h1 := hp.length_eq
        have h2 := apL_len O
        rw [← HnO.out] at h2
        exact Nat.le_trans (Nat.le_of_eq h1) (Nat.le_trans h2 hlO)
      obtain ⟨q, hq⟩ : ∃ q, q = M.length := ⟨_, rfl⟩
      have HQ := hid hq
      have hql : q ≤ 100 := by rw [hq]; exact HMl.out
      rw [← hq] at hcg ⊢
      have HL0 : Hid (Ldd A0 V0 (M.take 0) U) := ldd0 V0 U
      clear hb5 hR5 hp HI4 HT4 HO4 HB4 hq
      go_wp2_with fail
      go_loopw [26] (fun v wr => ∃ (k : Nat) (A : Tab) (V : Nat → Op4), k ≤ q ∧ v = i64 k ∧ Hid (Ldd A V (M.take k) U) ∧ Hid (Tg wr t A V) ∧ Hid (Rd4 wr ag M) ∧ Hid (wr.ownsRow B 48 3 (.slice au U.length cu) U.length (lcn U)) ∧ Hid (Below b w wr)) (fun v _ => q - (intOf v).toNat)
      case atStart => exact ⟨0, A0, V0, by omega, rfl, HL0, HT5, HR5, HO5, HB5⟩
      case round =>
        obtain ⟨k, A, V, hk, rfl, HL, HT, HR, HO, HB⟩ := hrel
        clear HL0 HT5 HR5 HO5 HB5
        by_cases hlt : k < q
        · have hkI : (k : Int) < q := by omega
          obtain ⟨x, hx⟩ : ∃ x, M[k]? = some x := ⟨_, List.getElem?_eq_getElem (by rw [← HQ.out]; exact hlt)⟩
          obtain ⟨g, o, hgo, hgl, c0, c1, c2, c3⟩ := HR.out k x hx
          subst hgo
          have HTx := hid (HT.out.alloc (oO x 54))
          have HRx := hid (HR.out.below (below_one wr (oO x 54)))
          have HOx := hid (HO.out.alloc (oO x 54))
          have htw : t < wr.heap.size := HT.out.lt
          have HBx : Hid (Below b w (wr.alloc (oO x 54))) := HB.out.alloc (by omega) _
          have HNm := hid (name_ok (wr.alloc (oO x 54)) t B A V x au cu U HTx.out htB HUl.out HUb.out HOx.out)
          have HF : Hid (Fresh A (wr.alloc (oO x 54)).heap.size) := fun r g a hr hg ha e => by
            have := blk_lt (HTx.out.obj r g a hr hg ha).2
            omega
          have HLn := hid (HL.out.step hx HMi.out HUp.out HUb.out HF.out)
          clear hx HL HT HR HO HB HF
          go_wp2_with fail
          refine HNm.out.mono ?_
          rintro e w6 ⟨rfl, hT6, hTo6⟩
          have HT6 := hid hT6
          have HR6 := hid (Rd4.touch HTx.out HRx.out hTo6)
          have HO6 := hid (own_keep1 HOx.out fun q hq => hTo6.block q (HOx.out.lt q hq).2 (by have := (HOx.out.lt q hq).1; omega))
          have HB6 : Hid (Below b w w6) := HBx.out.trans (hTo6.below hbt (by simp; omega))
          clear hT6 hTo6 HTx HRx HOx HBx HNm
          go_wp2_with fail
          exact ⟨⟨k + 1, _, _, by omega, by go_num, HLn, HT6, HR6, HO6, HB6⟩, by simp [intOf]; omega⟩
        · obtain ⟨wp, hwp⟩ : ∃ wp, wp = wr := ⟨_, rfl⟩
          subst hwp
          have hE : M.take k = M := List.take_of_length_le (by rw [← HQ.out]; omega)
          rw [hE] at HL
          have HJ : Hid (Jn A V) := HL.out.jn HMo.out
          obtain ⟨hyes, hno⟩ := HLs.out A V M HL.out HJ.out HPm.out
          have HY := hid hyes
          have HNo := hid hno
          have HOp := hid (opens_ok wp (pq t) A V HT.out.tv HJ.out.sml)
          have HSl : Hid (∀ W, Below wp.heap.size wp W → Calls Try.prog 16 #[pq t] W fun e w' => GotL W w' e (slL A V) ∧ Below W.heap.size W w') := fun W hW => slots_ok W (pq t) A V (HT.out.below hW).tv
          have HGO : Hid (∀ W W' e, GotB W W' e (nmL A V) → ∃ ao cap, e = .returned (.slice ao (opL A V).length cap) ∧ Rd4 W' ao (opL A V) ∧ (opL A V).length ≤ cap) := fun W W' e hg => hg.op HJ.out
          have hlO2 := op_len A V
          have hlS2 := sl_len A V
          have hbp : b ≤ wp.heap.size := Nat.le_trans hbt (Nat.le_of_lt HT.out.lt)
          obtain ⟨p1, hp1⟩ : ∃ p1, p1 = (opL A V).length := ⟨_, rfl⟩
          obtain ⟨p2, hp2⟩ : ∃ p2, p2 = (slL A V).length := ⟨_, rfl⟩
          have HP1 := hid hp1
          have HP2 := hid hp2
          rw [← hp1] at hlO2 HY HNo HGO
          rw [← hp2] at hlS2 HY HNo
          clear hE HL HR HO hyes hno hp1 hp2 HLs
          by_cases h1 : p1 < n
          · have HNR : Hid (¬ RightD O S) := fun hR => by have := (HY.out hR).2.2.1; omega
            have h1I : (p1 : Int) < n := by omega
            clear h1
            go_wp2_with fail
            refine HOp.out.mono ?_
            rintro e w6 ⟨hg6, hb6⟩
            obtain ⟨aO, cO, rfl, _, hc6⟩ := HGO.out _ _ _ hg6
            have HB6 : Hid (Below b w w6) := HB.out.trans (hb6.mono hbp)
            clear hg6 hb6 HOp HGO
            go_wp2_with fail
            go_ret2
            exact ⟨.no HNR.out, HB6.out⟩
          · have h1I : ¬ ((p1 : Int) < n) := by omega
            by_cases h2 : p2 < m
            · have HNR : Hid (¬ RightD O S) := fun hR => by have := (HY.out hR).2.2.2; omega
              have h2I : (p2 : Int) < m := by omega
              clear h1 h2
              go_wp2_with fail
              refine HOp.out.mono ?_
              rintro e w6 ⟨hg6, hb6⟩
              obtain ⟨aO, cO, rfl, _, hc6⟩ := HGO.out _ _ _ hg6
              have HB6 : Hid (Below b w w6) := HB.out.trans (hb6.mono hbp)
              have HS6 := hid (HSl.out w6 hb6)
              have hs6 : wp.heap.size ≤ w6.heap.size := hb6.size
              clear hg6 hb6 HOp HGO HSl
              go_wp2_with fail
              refine HS6.out.mono ?_
              rintro e w7 ⟨⟨aS, cS, rfl, hown7⟩, hb7⟩
              have HB7 : Hid (Below b w w7) := HB6.out.trans (hb7.mono (by omega))
              have hc7 := own_capK hown7
              rw [← HP2.out] at hc7 ⊢
              clear hown7 hb7 HS6
              go_wp2_with fail
              go_ret2
              exact ⟨.no HNR.out, HB7.out⟩
            · have h2I : ¬ ((p2 : Int) < m) := by omega
              have HYR : Hid (RightD O S) := Classical.byContradiction fun hR => by have := HNo.out hR; omega
              clear h1 h2
              go_wp2_with fail
              refine HOp.out.mono ?_
              rintro e w6 ⟨hg6, hb6⟩
              obtain ⟨aO, cO, rfl, _, hc6⟩ := HGO.out _ _ _ hg6
              have HB6 : Hid (Below b w w6) := HB.out.trans (hb6.mono hbp)
              have HT6 := hid (HT.out.below hb6)
              have HS6 := hid (HSl.out w6 hb6)
              have hs6 : wp.heap.size ≤ w6.heap.size := hb6.size
              clear hg6 hb6 HOp HGO HSl HT
              go_wp2_with fail
              refine HS6.out.mono ?_
              rintro e w7 ⟨⟨aS, cS, rfl, hown7⟩, hb7⟩
              have HB7 : Hid (Below b w w7) := HB6.out.trans (hb7.mono (by omega))
              have HT7 := hid (HT6.out.below hb7)
              have hc7 := own_capK hown7
              rw [← HP2.out] at hc7 ⊢
              clear hown7 hb7 HS6
              go_wp2_with fail
              go_ret2
              obtain ⟨y1, y2, y3, y4⟩ := HY.out HYR.out
              exact ⟨.inr ⟨HYR.out, t, A, V, rfl, hbt, HJ.out, HT7.out, y1, y2, by rw [← HP1.out, y3, HnO.out], by rw [← HP2.out, y4, HnS.out]⟩, HB7.out⟩
end Go.Proofs.Ytaapiffglfppnaa
