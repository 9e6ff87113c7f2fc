/- The document's Read: its walk; no statement is proved in this text. -/
import Derived.Test.YtobkehlkopkaeaaDoorDk
namespace Go.Proofs.YtobkehlkopkaeaaDoor
open Go.ChangeShapes Go.WideShapes Go.ChangeAt Go.RowKit
set_option maxRecDepth 100000

theorem plain_le (i : In) : (plain i).length ≤ 4 := by
  rw [plain_len]; exact (sz_le _).2
theorem set3 {w2 : World} {H : Nat} {x0 x1 x2 x3 x4 x5 : Value} {t : TypeId} (h : w2.heap[H]? = some (.cells #[x0, x1, x2, x3, x4, x5] t (0, 0))) (y : Value) : (w2.setCell ⟨H, 3, none⟩ y).heap[H]? = some (.cells #[x0, x1, x2, y, x4, x5] t (0, 0)) := by
  simp [World.setCell, Array.getElem?_modify, h]
set_option maxHeartbeats 6400000 in
theorem rread_ok (s : ByteArray) (w : World) (hs : s.size ≤ 900000) : Calls Tryd.prog 10 #[.string s] w fun e w' => e = .returned (.tuple #[str (readD s.data.toList).1, i64 (readD s.data.toList).2]) ∧ Below w.heap.size w w' := by
  obtain ⟨hW, hne, hRl⟩ := rowsD_ok s.data.toList (by rw [Array.length_toList]; exact hs)
  have HRW : Hid (∀ W, Calls Tryd.prog 25 #[.string s] W fun e w' => ∃ g cap, e = .returned (.slice (some ⟨g, 0, none⟩) (rowsD s.data.toList).length cap) ∧ RwS w' g (rowsD s.data.toList) ∧ (rowsD s.data.toList).length ≤ cap ∧ Below W.heap.size W w') := fun W =>
    (rrows_s s W hs).mono fun e w' ⟨v, D, h1, h2, h3⟩ => by
      obtain ⟨g, cap, e1, e2, e3⟩ := rwd_rws h2 (fun h0 => hne (by rw [← h3, h0]; rfl))
      rw [h3] at e1 e2 e3
      exact ⟨g, cap, by rw [h1, e1], e2, e3, h2.bel⟩
  obtain ⟨RES, hRES⟩ : ∃ RES, RES = readD s.data.toList := ⟨_, rfl⟩
  have HR0 : Hid (RES = match fwF (rowsD s.data.toList) (rowsD s.data.toList) 0 with | some i => ([], i + 1) | none => outF (rowsD s.data.toList) (rowsD s.data.toList) 0 []) := hRES
  rw [← hRES]
  have HW := hid hW
  clear hRES hW hne
  generalize rowsD s.data.toList = R at *
  go_enter Tryd.func10, Tryd.ntmps10
  go_wp2_with fail
  refine (HRW.out _).mono ?_
  rintro e w1 ⟨g, cap, rfl, hS1, hcap, hb1⟩
  have HS := hid hS1
  have HB1 : Hid (Below w.heap.size w w1) := hb1
  have hz1 := hb1.size
  clear hS1 hb1 HRW
  go_wp2_with fail
  go_loopg [14] R.length (fun gh u wr => ∃ i : Nat, R.length - i ≤ gh ∧ i ≤ R.length ∧ u = i64 i ∧ Hid (fwF R R 0 = fwF R (R.drop i) i) ∧ Hid (∀ j (h : j < R.length), j < i → wrW R R[j] j = false) ∧ Hid (Below w1.heap.size w1 wr))
  case atStart => exact ⟨0, by omega, by omega, rfl, rfl, (fun j _ h => absurd h (by omega)), Below.refl _ _⟩
  case round =>
    obtain ⟨i, hg, hi, rfl, HFW, HNW, HB⟩ := hrel
    have hz := HB.out.size
    have HBW : Hid (Below w.heap.size w wr) := HB1.out.trans (HB.out.mono hz1)
    by_cases hil : i < R.length
    · have HWR : Hid (∀ W, Below wr.heap.size wr W → Calls Tryd.prog 26 #[.slice (some ⟨g, 0, none⟩) R.length cap, i64 i] W fun e w' => e = .returned (.bool (wrW R R[i] i)) ∧ Below W.heap.size W w') := fun W hb => wrong_ok R HW.out g cap i W ((HS.out.under HB.out).under hb) (by omega) hil
      have HFW2 : Hid (fwF R R 0 = if wrW R R[i] i = true then some i else fwF R (R.drop (i + 1)) (i + 1)) := by
        show _ = _
        rw [HFW.out, List.drop_eq_getElem_cons hil]; rfl
      cases hwr : wrW R R[i] i with
      | true =>
        rw [hwr] at HWR HFW2
        have HF : Hid (RES = ([], i + 1)) := by show _ = _; rw [HR0.out, HFW2.out]; rfl
        clear hwr HFW HFW2 HNW
        go_wp2_with fail
        refine (HWR.out _ (Below.refl _ _)).mono ?_
        rintro e w2 ⟨rfl, hb2⟩
        have HB2 : Hid (Below w.heap.size w w2) := HBW.out.trans (hb2.mono (by omega))
        clear hb2
        go_wp2_with fail
        exact bodyPost_ret (v := .tuple #[str [], i64 ((i + 1 : Nat) : Int)]) (by simp [results, Tryd.results10, go_sem]) rfl ⟨by rw [HF.out], HB2.out⟩
      | false =>
        rw [hwr] at HWR HFW2
        have HNW2 : Hid (∀ j (h : j < R.length), j < i + 1 → wrW R R[j] j = false) := fun j h hj => by
          by_cases hji : j < i
          · exact HNW.out j h hji
          · obtain rfl : j = i := by omega
            exact hwr
        have HFW3 : Hid (fwF R R 0 = fwF R (R.drop (i + 1)) (i + 1)) := by show _ = _; rw [HFW2.out]; simp
        clear hwr HFW HFW2 HNW
        go_wp2_with fail
        refine (HWR.out _ (Below.refl _ _)).mono ?_
        rintro e w2 ⟨rfl, hb2⟩
        have HB2 : Hid (Below w1.heap.size w1 w2) := HB.out.trans (hb2.mono hz)
        clear hb2
        go_wp2_with fail
        go_roundg (R.length - (i + 1))
        case measure => omega
        case rel => exact ⟨i + 1, by omega, by omega, by go_num, HFW3, HNW2, HB2⟩
    · have hlt : ¬ (i : Int) < (R.length : Int) := by omega
      have HNO : Hid (∀ j (h : j < R.length), wrW R R[j] j = false) := fun j h => HNW.out j h (by omega)
      have HRO : Hid (RES = outF R (R.drop 0) 0 []) := by
        show _ = _
        rw [HR0.out, HFW.out, List.drop_eq_nil_of_le (by omega)]; rfl
      have HSr : Hid (RwS wr g R) := HS.out.under HB.out
      clear HNW HFW HR0 HS HB hi hg
      go_wp2_with fail
      go_loopg [6, 25] R.length (fun gh ov u wx => ∃ (i : Nat) (ob : ByteArray), R.length - i ≤ gh ∧ i ≤ R.length ∧ u = i64 i ∧ ov = .string ob ∧ ob.size ≤ 256 ∧ Hid (RES = outF R (R.drop i) i ob.data.toList) ∧ Hid (Below w.heap.size w wx) ∧ Hid (RwS wx g R))
      case atStart => exact ⟨0, ⟨#[]⟩, by omega, by omega, rfl, rfl, by decide, HRO, HBW, HSr⟩
      case round =>
        obtain ⟨i, ob, hg, hi, rfl, rfl, hob, HR, HB, HS⟩ := hrel
        clear HRO HSr HBW hlt
        have hz := HB.out.size
        by_cases hil : i < R.length
        · obtain ⟨wo, wc, hc, hw⟩ := HS.out.at hil
          have HNOi : Hid (wrW R R[i] i = false) := HNO.out i hil
          obtain ⟨hw1, hw2⟩ := HW.out R[i] (List.getElem_mem hil)
          have HN : Hid (∀ W, Below wr.heap.size wr W → Calls Tryd.prog 27 #[.slice wo R[i].length wc] W fun e w' => e = .returned (str (nmD R[i])) ∧ ∃ n, w' = W.drewN n) := fun W hb => named_ok R[i] wo wc W (hw.below hb) (fun x hx => (hw2 x hx).1) (fun x hx => (hw2 x hx).2) hw1
          have HOF : Hid (∀ W, Below wr.heap.size wr W → R[i] ≠ [] → Calls Tryd.prog 28 #[.slice wo R[i].length wc] W fun e w' => e = .returned (.agg #[i64 (ofD R[i]).1.op, i64 (ofD R[i]).1.a, i64 (ofD R[i]).1.b, i64 (ofD R[i]).1.n, str (ofD R[i]).2.1, .bool (ofD R[i]).2.2]) ∧ Below W.heap.size W w') := fun W hb hne => by
            cases hq : R[i] with
            | nil => exact absurd hq hne
            | cons x0 t =>
              rw [hq] at hw1 hw2
              have hwq : WSl W wo (x0 :: t) := by rw [← hq]; exact hw.below hb
              exact of_ok x0 t wo wc W hwq (fun x hx => (hw2 x hx).2) (by simp at hw1; omega)
          have HST : Hid (RES = if R[i] = [] ∨ nmD R[i] ≠ [] then outF R (R.drop (i + 1)) (i + 1) ob.data.toList else if 256 < (ob.data.toList ++ plain (instD R R[i] i)).length then ([], i + 1) else outF R (R.drop (i + 1)) (i + 1) (ob.data.toList ++ plain (instD R R[i] i))) := by
            show _ = _
            rw [HR.out, List.drop_eq_getElem_cons hil]; rfl
          have HB1x : Hid (Below wr.heap.size wr (wr.alloc (.cells #[.slice wo R[i].length wc] 65))) := below_one _ _
          clear hw hw2 HR
          generalize R[i] = ws at *
          by_cases hws : ws = []
          · subst hws
            have HF : Hid (RES = outF R (R.drop (i + 1)) (i + 1) ob.data.toList) := by show _ = _; rw [HST.out, if_pos (Or.inl rfl)]
            have HS2 : Hid (RwS (wr.alloc (.cells #[.slice wo ([] : List Bs).length wc] 65)) g R) := HS.out.under HB1x.out
            have HB2 : Hid (Below w.heap.size w (wr.alloc (.cells #[.slice wo ([] : List Bs).length wc] 65))) := HB.out.trans (HB1x.out.mono hz)
            clear HST HN HOF
            go_wp2_with fail
            go_roundg (R.length - (i + 1))
            case measure => omega
            case rel => exact ⟨i + 1, ob, by omega, by omega, by go_num, rfl, hob, HF, HB2, HS2⟩
          · have hl0 : 0 < ws.length := List.length_pos_iff.2 hws
            have hl1 : ((ws.length : Int) == 0) = false := by
              have : (ws.length : Int) ≠ 0 := by omega
              simpa using this
            have HWS : Hid (ws ≠ []) := hws
            obtain ⟨nmv, hnm⟩ : ∃ nmv, nmv = nmD ws := ⟨_, rfl⟩
            rw [← hnm] at HN HST
            by_cases hne : nmv = []
            · subst hne
              obtain ⟨hk1, hk2⟩ := wr_no HNOi.out hws hnm.symm
              obtain ⟨hi1, hi2⟩ := ofD_ok hk1
              have HID : Hid (instD R ws i = if (ofD ws).2.1 = [] then (ofD ws).1 else ⟨(ofD ws).1.op, (ofD ws).1.a, (ofD ws).1.b, (plS (R.take (atD R (ofD ws).2.1).toNat) - plS (R.take (i + 1))) % 65536⟩) := (rfl : instD R ws i = _)
              have HST1 : Hid (RES = if 256 < (ob.data.toList ++ plain (instD R ws i)).length then ([], i + 1) else outF R (R.drop (i + 1)) (i + 1) (ob.data.toList ++ plain (instD R ws i))) := by
                show _ = _
                rw [HST.out, if_neg (fun h => h.elim hws (fun h2 => h2 rfl))]
              clear HST hws hnm HNOi
              obtain ⟨⟨⟨o, a, b, n⟩, lab, ok⟩, hof⟩ : ∃ r, r = ofD ws := ⟨_, rfl⟩
              rw [← hof] at HOF hk1 hk2 hi1 hi2 HID
              simp only at hk1 hk2 hi1 hi2
              obtain rfl := hk1
              have HI1 := hid hi1
              have HI2 := hid hi2
              clear hof hi1 hi2
              go_wp2_with fail
              refine (HN.out _ HB1x.out).mono ?_
              rintro e w2 ⟨rfl, nn, rfl⟩
              have HB2 : Hid (Below wr.heap.size wr ((wr.alloc (.cells #[.slice wo ws.length wc] 65)).drewN nn)) := below_dn HB1x.out nn
              go_wp2_with fail
              refine (HOF.out _ HB2.out HWS.out).mono ?_
              rintro e w3 ⟨rfl, hb3⟩
              have HB3 : Hid (Below wr.heap.size wr w3) := HB2.out.trans (hb3.mono HB2.out.size)
              have HB4 : Hid (Below wr.heap.size wr (w3.alloc (.cells #[i64 o, i64 a, i64 b, i64 n, str lab, .bool true] 68))) := HB3.out.alloc HB3.out.size _
              have H4 : Hid ((w3.alloc (.cells #[i64 o, i64 a, i64 b, i64 n, str lab, .bool true] 68)).heap[w3.heap.size]? = some (.cells #[i64 o, i64 a, i64 b, i64 n, str lab, .bool true] 68 (0, 0))) := heap_at rfl _
              have hz3 := HB3.out.size
              clear hb3 HB2 HB1x HN HOF
              by_cases hlab : lab = []
              · subst hlab
                obtain ⟨I, hI⟩ : ∃ I : In, I = ⟨o, a, b, n⟩ := ⟨_, rfl⟩
                have HST2 : Hid (RES = if 256 < (ob.data.toList ++ plain I).length then ([], i + 1) else outF R (R.drop (i + 1)) (i + 1) (ob.data.toList ++ plain I)) := by
                  show _ = _
                  rw [HST1.out, HID.out, if_pos rfl, hI]
                have HPL : Hid (∀ W, Calls Tryd.prog 32 #[.agg #[i64 o, i64 a, i64 b, i64 n]] W fun e w' => e = .returned (.string ⟨(plain I).toArray⟩) ∧ Below W.heap.size W w') := fun W => by rw [hI]; exact plain_ok W ⟨o, a, b, n⟩ HI1.out
                clear hI HST1 HID HI1 HI2 hk2
                go_upto_region 16 with fail
                have HB8 : Hid (Below w.heap.size w (w3.alloc (.cells #[i64 o, i64 a, i64 b, i64 n, str [], .bool true] 68))) := HB.out.trans (HB4.out.mono hz)
                have HS8 : Hid (RwS (w3.alloc (.cells #[i64 o, i64 a, i64 b, i64 n, str [], .bool true] 68)) g R) := HS.out.under HB4.out
                have H8 := H4
                clear H4 HB4 HB3
                generalize w3.alloc (.cells #[i64 o, i64 a, i64 b, i64 n, str [], .bool true] 68) = W8 at *
                generalize w3.heap.size = B8 at *
                obtain ⟨⟨d0, d1, d2, d3, d4, d5⟩, _⟩ := six_at _ _ _ _ _ _ 68 H8.out
                go_wp2_with fail
                refine (HPL.out _).mono ?_
                rintro e w9 ⟨rfl, hb9⟩
                have HB9 : Hid (Below w.heap.size w w9) := HB8.out.trans (hb9.mono HB8.out.size)
                have HS9 : Hid (RwS w9 g R) := HS8.out.under hb9
                clear hb9 d0 d1 d2 d3 d4 d5
                have hpb : (⟨(plain I).toArray⟩ : ByteArray).size = (plain I).length := bz _
                have HPB : Hid ((⟨(plain I).toArray⟩ : ByteArray).data.toList = plain I) := rfl
                have HPS : Hid (plain I = (⟨(plain I).toArray⟩ : ByteArray).data.toList) := rfl
                have hpl4 : (plain I).length ≤ 4 := plain_le I
                rw [hpb.symm] at hpl4
                generalize (⟨(plain I).toArray⟩ : ByteArray) = PB at *
                have hap : (ob ++ PB).size = ob.size + PB.size := ByteArray.size_append
                have HAP : Hid ((ob ++ PB).data.toList = ob.data.toList ++ PB.data.toList) := by show _ = _; simp
                clear hpb
                by_cases hlong : 256 < ob.size + PB.size
                · have hlo : (256 : Int) < ((ob.size : Int) + (PB.size : Int)) := by omega
                  have HF : Hid (RES = ([], i + 1)) := by
                    show _ = _
                    rw [HST2.out, HPS.out, ← HAP.out, if_pos (by rw [Array.length_toList]; show 256 < (ob ++ PB).size; omega)]
                  clear hlong
                  go_wp2_with fail
                  exact bodyPost_ret (v := .tuple #[str [], i64 ((i + 1 : Nat) : Int)]) (by simp [results, Tryd.results10, go_sem]) rfl ⟨by rw [HF.out], HB9.out⟩
                · have hlo : ¬ (256 : Int) < ((ob.size : Int) + (PB.size : Int)) := by omega
                  have HR3 : Hid (RES = outF R (R.drop (i + 1)) (i + 1) (ob ++ PB).data.toList) := by
                    show _ = _
                    rw [HST2.out, HPS.out, ← HAP.out, if_neg (by rw [Array.length_toList]; show ¬ 256 < (ob ++ PB).size; omega)]
                  have hob2 : (ob ++ PB).size ≤ 256 := by omega
                  clear hlong
                  go_wp2_with fail
                  go_roundg (R.length - (i + 1))
                  case measure => omega
                  case rel => exact ⟨i + 1, ob ++ PB, by omega, by omega, by go_num, rfl, hob2, HR3, HB9, HS9⟩
              · have hle : lab.isEmpty = false := by simp [hlab]
                obtain ⟨q, hq1, hq2⟩ : ∃ q : Nat, atD R lab = q ∧ q < R.length := by
                  rcases hk2 with h | h
                  · exact absurd h hlab
                  · exact h
                have HAT : Hid (∀ W, RwS W g R → Calls Tryd.prog 31 #[.slice (some ⟨g, 0, none⟩) R.length cap, str lab] W fun e w' => e = .returned (i64 (q : Nat)) ∧ Below W.heap.size W w') := fun W h => by
                  have := at_ok R HW.out g cap lab W h (by omega)
                  rw [hq1] at this
                  exact this
                have HP1 : Hid (∀ W, RwS W g R → Calls Tryd.prog 30 #[.slice (some ⟨g, 0, none⟩) R.length cap, i64 (q : Nat)] W fun e w' => e = .returned (i64 (plS (R.take q))) ∧ Below W.heap.size W w') := fun W h => place_ok R HW.out g cap q W h (by omega) (by omega) hcap
                have HP2 : Hid (∀ W, RwS W g R → Calls Tryd.prog 30 #[.slice (some ⟨g, 0, none⟩) R.length cap, .int .i64 ((i : Int) + 1)] W fun e w' => e = .returned (i64 (plS (R.take (i + 1)))) ∧ Below W.heap.size W w') := fun W h => by
                  have := place_ok R HW.out g cap (i + 1) W h (by omega) (by omega) hcap
                  rw [show ((i + 1 : Nat) : Int) = (i : Int) + 1 by omega] at this
                  exact this
                have hb1 := plS_le (R.take q)
                have hb2 := plS_le (R.take (i + 1))
                have hb3 : (R.take q).length ≤ 1000001 := by rw [List.length_take]; omega
                have hb4 : (R.take (i + 1)).length ≤ 1000001 := by rw [List.length_take]; omega
                have HID2 : Hid (instD R ws i = ⟨o, a, b, (plS (R.take q) - plS (R.take (i + 1))) % 65536⟩) := by
                  show _ = _
                  rw [HID.out, if_neg hlab]
                  simp only [hq1, Int.toNat_natCast]
                clear HID hq1 hk2
                generalize plS (R.take q) = P1 at *
                generalize plS (R.take (i + 1)) = P2 at *
                have hP : -9000000 ≤ P1 ∧ P1 ≤ 9000000 ∧ -9000000 ≤ P2 ∧ P2 ≤ 9000000 := by omega
                obtain ⟨v, hv⟩ : ∃ v, v = (P1 - P2) % 65536 := ⟨_, rfl⟩
                have hv0 : 0 ≤ v := by rw [hv]; exact Int.emod_nonneg _ (by omega)
                have hv1 : v < 65536 := by rw [hv]; exact Int.emod_lt_of_pos _ (by omega)
                rw [← hv] at HID2
                have HWD : Hid (∀ W, Calls Tryd.prog 29 #[.int .i64 (P1 - P2)] W fun e w' => e = .returned (.int .u16 v) ∧ w' = W) := fun W => by rw [hv]; exact rword_ok (P1 - P2) W
                obtain ⟨I, hI⟩ : ∃ I : In, I = ⟨o, a, b, v⟩ := ⟨_, rfl⟩
                have HST2 : Hid (RES = if 256 < (ob.data.toList ++ plain I).length then ([], i + 1) else outF R (R.drop (i + 1)) (i + 1) (ob.data.toList ++ plain I)) := by
                  show _ = _
                  rw [HST1.out, HID2.out, hI]
                have HPL : Hid (∀ W, Calls Tryd.prog 32 #[.agg #[i64 o, i64 a, i64 b, i64 v]] W fun e w' => e = .returned (.string ⟨(plain I).toArray⟩) ∧ Below W.heap.size W w') := fun W => by rw [hI]; exact plain_ok W ⟨o, a, b, v⟩ (HI2.out hlab v hv0 hv1)
                clear hI hv HST1 HID2 HI1 HI2 hlab hb1 hb2 hb3 hb4
                go_wp2_with fail
                refine (HAT.out _ (HS.out.under HB4.out)).mono ?_
                rintro e w5 ⟨rfl, hb5⟩
                have HB5 : Hid (Below wr.heap.size wr w5) := HB4.out.trans (hb5.mono HB4.out.size)
                have H5 : Hid (w5.heap[w3.heap.size]? = some (.cells #[i64 o, i64 a, i64 b, i64 n, str lab, .bool true] 68 (0, 0))) := (hb5.block _ (by simp)).trans H4.out
                clear hb5 HAT H4
                go_wp2_with fail
                refine (HP1.out _ (HS.out.under HB5.out)).mono ?_
                rintro e w6 ⟨rfl, hb6⟩
                have HB6 : Hid (Below wr.heap.size wr w6) := HB5.out.trans (hb6.mono HB5.out.size)
                have H6 : Hid (w6.heap[w3.heap.size]? = some (.cells #[i64 o, i64 a, i64 b, i64 n, str lab, .bool true] 68 (0, 0))) := (hb6.block _ (Array.getElem?_eq_some_iff.1 H5.out).1).trans H5.out
                clear hb6 HP1 H5
                go_wp2_with fail
                refine (HP2.out _ (HS.out.under HB6.out)).mono ?_
                rintro e w7 ⟨rfl, hb7⟩
                have HB7 : Hid (Below wr.heap.size wr w7) := HB6.out.trans (hb7.mono HB6.out.size)
                have H7 : Hid (w7.heap[w3.heap.size]? = some (.cells #[i64 o, i64 a, i64 b, i64 n, str lab, .bool true] 68 (0, 0))) := (hb7.block _ (Array.getElem?_eq_some_iff.1 H6.out).1).trans H6.out
                clear hb7 HP2 H6
                obtain ⟨⟨d0, d1, d2, d3, d4, d5⟩, df⟩ := six_at _ _ _ _ _ _ 68 H7.out
                have df3 := df 3
                clear df
                go_upto_region 16 with (go_at_call 29; refine (HWD.out _).mono ?_; rintro e w8 ⟨rfl, rfl⟩)
                have hbB : wr.heap.size ≤ w3.heap.size := hz3
                have HB8x : Hid (Below wr.heap.size wr (World.setCell _ ⟨w3.heap.size, 3, none⟩ (i64 v))) := HB7.out.setCell hbB _
                have HB8 := hid (HB.out.trans (HB8x.out.mono hz))
                have HS8 := hid (HS.out.under HB8x.out)
                have H8 := hid (set3 H7.out (i64 v))
                clear H7 HB7 HB8x d0 d1 d2 d3 d4 d5 df3 HB4 HB3
                generalize World.setCell _ ⟨w3.heap.size, 3, none⟩ (i64 v) = W8 at *
                generalize w3.heap.size = B8 at *
                obtain ⟨⟨d0, d1, d2, d3, d4, d5⟩, _⟩ := six_at _ _ _ _ _ _ 68 H8.out
                go_wp2_with fail
                refine (HPL.out _).mono ?_
                rintro e w9 ⟨rfl, hb9⟩
                have HB9 : Hid (Below w.heap.size w w9) := HB8.out.trans (hb9.mono HB8.out.size)
                have HS9 : Hid (RwS w9 g R) := HS8.out.under hb9
                clear hb9 d0 d1 d2 d3 d4 d5
                have hpb : (⟨(plain I).toArray⟩ : ByteArray).size = (plain I).length := bz _
                have HPB : Hid ((⟨(plain I).toArray⟩ : ByteArray).data.toList = plain I) := rfl
                have HPS : Hid (plain I = (⟨(plain I).toArray⟩ : ByteArray).data.toList) := rfl
                have hpl4 : (plain I).length ≤ 4 := plain_le I
                rw [hpb.symm] at hpl4
                generalize (⟨(plain I).toArray⟩ : ByteArray) = PB at *
                have hap : (ob ++ PB).size = ob.size + PB.size := ByteArray.size_append
                have HAP : Hid ((ob ++ PB).data.toList = ob.data.toList ++ PB.data.toList) := by show _ = _; simp
                clear hpb
                by_cases hlong : 256 < ob.size + PB.size
                · have hlo : (256 : Int) < ((ob.size : Int) + (PB.size : Int)) := by omega
                  have HF : Hid (RES = ([], i + 1)) := by
                    show _ = _
                    rw [HST2.out, HPS.out, ← HAP.out, if_pos (by rw [Array.length_toList]; show 256 < (ob ++ PB).size; omega)]
                  clear hlong
                  go_wp2_with fail
                  exact bodyPost_ret (v := .tuple #[str [], i64 ((i + 1 : Nat) : Int)]) (by simp [results, Tryd.results10, go_sem]) rfl ⟨by rw [HF.out], HB9.out⟩
                · have hlo : ¬ (256 : Int) < ((ob.size : Int) + (PB.size : Int)) := by omega
                  have HR3 : Hid (RES = outF R (R.drop (i + 1)) (i + 1) (ob ++ PB).data.toList) := by
                    show _ = _
                    rw [HST2.out, HPS.out, ← HAP.out, if_neg (by rw [Array.length_toList]; show ¬ 256 < (ob ++ PB).size; omega)]
                  have hob2 : (ob ++ PB).size ≤ 256 := by omega
                  clear hlong
                  go_wp2_with fail
                  go_roundg (R.length - (i + 1))
                  case measure => omega
                  case rel => exact ⟨i + 1, ob ++ PB, by omega, by omega, by go_num, rfl, hob2, HR3, HB9, HS9⟩
            · have hle : nmv.isEmpty = false := by simp [hne]
              have HF : Hid (RES = outF R (R.drop (i + 1)) (i + 1) ob.data.toList) := by show _ = _; rw [HST.out, if_pos (Or.inr hne)]
              clear HST hnm hws hne HOF
              go_wp2_with fail
              refine (HN.out _ HB1x.out).mono ?_
              rintro e w2 ⟨rfl, nn, rfl⟩
              have HB2x : Hid (Below wr.heap.size wr ((wr.alloc (.cells #[.slice wo ws.length wc] 65)).drewN nn)) := below_dn HB1x.out nn
              have HB2 : Hid (Below w.heap.size w ((wr.alloc (.cells #[.slice wo ws.length wc] 65)).drewN nn)) := HB.out.trans (HB2x.out.mono hz)
              have HS2 : Hid (RwS ((wr.alloc (.cells #[.slice wo ws.length wc] 65)).drewN nn) g R) := HS.out.under HB2x.out
              clear HN HB1x HB2x
              go_wp2_with fail
              go_roundg (R.length - (i + 1))
              case measure => omega
              case rel => exact ⟨i + 1, ob, by omega, by omega, by go_num, rfl, hob, HF, HB2, HS2⟩
        · have hlt : ¬ (i : Int) < (R.length : Int) := by omega
          have HF : Hid (RES = (ob.data.toList, 0)) := by
            show _ = _
            rw [HR.out, List.drop_eq_nil_of_le (by omega)]; rfl
          go_wp2_with fail
          exact bodyPost_ret (v := .tuple #[.string ob, i64 0]) (by simp [results, Tryd.results10, go_sem]) rfl ⟨by rw [HF.out]; rfl, HB.out⟩
end Go.Proofs.YtobkehlkopkaeaaDoor
