/- asm's Read at any bytes: its contract; no statement is proved in this text. -/
import Derived.Test.YtobkehlkopkaeaaDoorReadWalk
import Derived.Test.YtobkehlkopkaeaaDoorSvWalk2
namespace Go.Proofs.YtobkehlkopkaeaaDoor
open Go.ChangeShapes Go.WideShapes Go.ChangeAt Go.RowKit Go.ChangeMaps Go.MapKept
set_option maxRecDepth 100000

structure RdA (w : World) (T : Nat) (M : Labs) (RD : Bs ⊕ Nat) (B : Nat) (g : Nat) (v6 v7 v8 v9 : Value) (wr : World) (x : Bs) (more : Bool) (num : Nat) (o : Bs) : Prop where
  e7 : v7 = str x
  e8 : v8 = .bool more
  e9 : v9 = i64 num
  n1 : 1 ≤ num
  nT : num + (if more = true then x.length + 1 else 0) ≤ T + 2
  gh : (if more = true then x.length + 1 else 0) ≤ g
  xT : x.length ≤ T
  ol : o.length ≤ 4 * num
  rd : rdF M (rowsM x more) num o = RD
  own : wr.ownsRow B 5 1 v6 o.length (cells o)
  map : MapS wr w.heap.size M
  bel : Below w.heap.size w wr
  bB : B ≤ wr.heap.size
  Bw : w.heap.size < B

theorem RdA.next {w : World} {T : Nat} {M : Labs} {RD : Bs ⊕ Nat} {B g : Nat} {v6 v7 v8 v9 : Value} {wr : World} {x : Bs} {num : Nat} {o : Bs} (h : RdA w T M RD B g v6 v7 v8 v9 wr x true num o)
    {c2 : Bs} {c3 : Bool} (hc : c3 = true → c2.length < x.length) (hc' : c2.length ≤ x.length) {v6' v9' : Value} {wr' : World} {o' : Bs} (e9 : v9' = i64 ((num + 1 : Nat) : Int)) (hol : o'.length ≤ o.length + 4)
    (hrd : rdF M (rowsM c2 c3) (num + 1) o' = RD) (own : wr'.ownsRow B 5 1 v6' o'.length (cells o')) (map : MapS wr' w.heap.size M) (bel : Below w.heap.size w wr') (bB : B ≤ wr'.heap.size) :
    RdA w T M RD B (if c3 = true then c2.length + 1 else 0) v6' (str c2) (.bool c3) v9' wr' c2 c3 (num + 1) o' := by
  have h1 := h.nT
  have h2 := h.xT
  have h3 := h.ol
  rw [if_pos rfl] at h1
  refine ⟨rfl, rfl, e9, by omega, ?_, Nat.le_refl _, by omega, by omega, hrd, own, map, bel, bB, h.Bw⟩
  cases c3 with
  | false => simp; omega
  | true => have := hc rfl; simp; omega
theorem RdA.less {w : World} {T : Nat} {M : Labs} {RD : Bs ⊕ Nat} {B g : Nat} {v6 v7 v8 v9 : Value} {wr : World} {x : Bs} {num : Nat} {o : Bs} (h : RdA w T M RD B g v6 v7 v8 v9 wr x true num o)
    {c2 : Bs} {c3 : Bool} (hc : c3 = true → c2.length < x.length) : (if c3 = true then c2.length + 1 else 0) < g := by
  have h1 := h.gh
  rw [if_pos rfl] at h1
  cases c3 with
  | false => simp; omega
  | true => have := hc rfl; simp; omega
set_option maxHeartbeats 1600000 in
theorem read_any (w : World) (he : Env w) (text : Bs) (hl : text.length ≤ 100000) :
    Calls Tryd.prog 9 #[str text] w fun e w' => e = .returned (.tuple #[str (readR text).1, i64 ((readR text).2 : Nat)]) ∧ Below w.heap.size w w' := by
  have HE : Hid (Env w) := he
  have HSV : Hid (Calls Tryd.prog 20 #[str text] w fun e w' => e = .returned (.tuple #[.map (some w.heap.size), i64 (svT text).long]) ∧ MapS w' w.heap.size (svT text).M ∧ Below w.heap.size w w') := sv_any w he text hl
  have hnear := svT_near text
  have HLM : Hid (∀ x s, lookL (svT text).M x = some s → s.2 ≤ 500000 ∧ s.1 ≤ 1000000) := fun x s h => by
    obtain ⟨p, hp, rfl⟩ := lookL_mem h
    have := hnear.2.2 p hp
    omega
  have hlong := hnear.2.1
  obtain ⟨RD, hRD⟩ : ∃ RD, rdF (svT text).M (rowsM text true) 1 [] = RD := ⟨_, rfl⟩
  have HRR : Hid (readR text = finR RD (svT text).long) := (by rw [← hRD]; exact readR_eq text : readR text = finR RD (svT text).long)
  have HRD : Hid (rdF (svT text).M (rowsM text true) 1 [] = RD) := hRD
  clear he hnear hRD
  generalize readR text = RR at *
  generalize (svT text).long = LG at *
  generalize (svT text).M = M at *
  go_enter Tryd.func9, Tryd.ntmps9
  go_wp2_with fail
  go_step3
  go_wp2_with fail
  refine HSV.out.mono ?_
  rintro e w1 ⟨rfl, hm1, hb1⟩
  have HM1 : Hid (MapS w1 w.heap.size M) := hm1
  have HB1 : Hid (Below w.heap.size w w1) := hb1
  have hz1 : w.heap.size < w1.heap.size := hm1.lt
  clear hm1 hb1
  go_wp2_with fail
  go_step3
  go_wp2_with fail
  go_loopg [6, 7, 8, 9] (text.length + 1) (fun g v6 v7 v8 v9 wr => ∃ x more num o, RdA w text.length M RD w1.heap.size g v6 v7 v8 v9 wr x more num o)
  case atStart => exact ⟨text, true, 1, [], ⟨rfl, rfl, rfl, by omega, by simp; omega, by simp, by omega, by simp, HRD.out, World.ownsRow_nil _ _ _ _, HM1.out, HB1.out, Nat.le_refl _, hz1⟩⟩
  case round =>
    obtain ⟨x, more, num, o, h⟩ := hrel
    obtain ⟨rfl, rfl, rfl, hn1, hnT, hgh, hxT, hol, hrd, hown, hmap, hbel, hbB, hBw⟩ := id h
    have HH : Hid (RdA w text.length M RD w1.heap.size gk u6 (str x) (.bool more) (i64 num) wr x more num o) := h
    have HO : Hid (wr.ownsRow w1.heap.size 5 1 u6 o.length (cells o)) := hown
    have HM : Hid (MapS wr w.heap.size M) := hmap
    have HB : Hid (Below w.heap.size w wr) := hbel
    have hzz := hbel.size
    clear h hgh
    cases more with
    | false =>
      have HX : Hid (RR = finR (.inl o) LG) := (by rw [HRR.out, ← hrd]; rfl : RR = finR (.inl o) LG)
      have hcv := own_conv hown rfl
      clear hown hmap hbel hrd
      by_cases hL : 0 < LG
      · have HX2 : Hid (RR = ([], LG)) := (by rw [HX.out]; unfold finR; simp [hL] : RR = ([], LG))
        have hLb : decide ((0 : Int) < (LG : Int)) = true := by simp; omega
        clear HX hcv
        go_wp2_with fail
        try rw [Exit.noGoto_ret]
        go_ret2
        exact ⟨by rw [HX2.out]; rfl, HB.out⟩
      · have HX2 : Hid (RR = (o, 0)) := (by rw [HX.out]; unfold finR; simp [hL] : RR = (o, 0))
        have hLb : decide ((0 : Int) < (LG : Int)) = false := by simp; omega
        clear HX
        go_wp2_with fail
        try rw [Exit.noGoto_ret]
        go_ret2
        exact ⟨by rw [HX2.out]; rfl, HB.out⟩
    | true =>
      rw [if_pos rfl] at hnT
      obtain ⟨c1, c2, c3, hcut, hlns, hc1, hc2, hc2'⟩ := cutL x
      obtain ⟨m, hm⟩ := (HE.out.below hbel).maxl
      have HC : Hid (Calls Tryd.prog 21 #[str x, .string ⟨#[10]⟩] wr fun e w' => e = .returned (.tuple #[str c1, str c2, .bool c3]) ∧ ∃ n, w' = wr.drewN n) := by
        have := Tryd.strings_Cut ⟨x.toArray⟩ ⟨#[10]⟩ m wr (by rw [bz]; omega) hm
        rw [show (⟨#[10]⟩ : ByteArray).data.toList = [10] from rfl, blist, hcut] at this
        exact this
      have hrows : rowsM x true = splitF c1 :: rowsM c2 c3 := by
        unfold rowsM rowsF
        rw [if_pos rfl, hlns]
        cases c3 <;> rfl
      have HRD2 : Hid (rdF M (splitF c1 :: rowsM c2 c3) num o = RD) := (by rw [← hrows]; exact hrd : rdF M (splitF c1 :: rowsM c2 c3) num o = RD)
      have HSZ : Hid (c3 = true → c2.length < x.length) := hc2
      have HSZ' : Hid (c2.length ≤ x.length) := hc2'
      have hwl := wordsF_len 4 ((semi c1).dropWhile isSp)
      have HWL : Hid ((splitF c1).length ≤ 4) := hwl
      clear hown hmap hbel hrd hcut hlns hrows hm hwl hc2 hc2'
      go_wp2_with fail
      refine HC.out.mono ?_
      rintro e w2 ⟨rfl, nn, rfl⟩
      go_wp2_with fail
      have HBN : Hid (Below wr.heap.size wr (wr.drewN nn)) := ⟨rfl, rfl, rfl, Nat.le_refl _, fun _ _ => rfl⟩
      refine (split_any _ (HE.out.below (HB.out.trans (HBN.out.mono hzz))).maxl c1 (by omega)).mono ?_
      rintro e w3 ⟨v, rfl, ho3, hb3⟩
      have hb03 : Below wr.heap.size wr w3 := HBN.out.trans hb3
      have HB3 : Hid (Below w.heap.size w w3) := HB.out.trans (hb03.mono hzz)
      have HM3 : Hid (MapS w3 w.heap.size M) := HM.out.below hb03
      have HO3 : Hid (w3.ownsRow w1.heap.size 5 1 u6 o.length (cells o)) := own_below HO.out hb03
      have hz3 := hb03.size
      obtain ⟨ao, cap, rfl, hws, _, hcp1, hcp2⟩ := own_words2 ho3
      have hwsl : ∀ y ∈ splitF c1, y.length ≤ 1000000 := fun y hy => by have := split_le c1 y hy; omega
      have HLB : Hid (Calls Tryd.prog 23 #[.slice ao (splitF c1).length cap] w3 fun e w' => e = .returned (.tuple #[str ((labF (splitF c1)).getD []), .bool (labF (splitF c1)).isSome]) ∧ w' = w3) := label_ok w3 _ ao cap hws (by have := HWL.out; omega) hwsl
      have HWS : Hid (WSl w3 ao (splitF c1)) := hws
      have HWZ : Hid (∀ y ∈ splitF c1, y.length ≤ 1000000) := hwsl
      clear ho3 hb3 hb03 hws hwsl HBN HC HM HB HO
      generalize splitF c1 = ws at *
      have hLE := HH.out.less HSZ.out
      cases ws with
      | nil =>
        have HRD3 : Hid (rdF M (rowsM c2 c3) (num + 1) o = RD) := HRD2.out
        simp only [List.length_nil] at hcp1 ⊢
        go_wp2_with fail
        go_roundg (if c3 = true then c2.length + 1 else 0)
        case measure => exact hLE
        case rel => exact ⟨c2, c3, num + 1, o, HH.out.next HSZ.out HSZ'.out (by go_num) (by omega) HRD3.out HO3.out HM3.out HB3.out (by omega)⟩
      | cons z t =>
        obtain ⟨NW, hNW⟩ : ∃ NW, (z :: t).length = NW := ⟨_, rfl⟩
        have HNW : Hid ((z :: t).length = NW) := hNW
        have hN4 : NW ≤ 4 := by rw [← hNW]; exact HWL.out
        have hN0 : 0 < NW := by rw [← hNW]; simp
        rw [hNW] at HLB hcp1 ⊢
        have hNb : ((NW : Int) == 0) = false := by simp; omega
        obtain ⟨LB, hLB⟩ : ∃ LB, labF (z :: t) = LB := ⟨_, rfl⟩
        rw [hLB] at HLB
        clear hNW
        cases LB with
        | some y =>
          have HRD3 : Hid (rdF M ((z :: t) :: rowsM c2 c3) num o = if lineOf M y = num then rdF M (rowsM c2 c3) (num + 1) o else .inr num) := rdF_lab hLB
          have HLB2 : Hid (Calls Tryd.prog 23 #[.slice ao NW cap] w3 fun e w' => e = .returned (.tuple #[str y, .bool true]) ∧ w' = w3) := HLB.out
          have hlk := HM3.out.lkup y false
          obtain ⟨⟨s1, s2⟩, hsp⟩ : ∃ q, (lookL M y).getD (0, 0) = q := ⟨_, rfl⟩
          have hline : lineOf M y = s1 := by unfold lineOf; rw [hsp]
          unfold lookR at hlk
          rw [hsp, if_neg (by simp)] at hlk
          rw [hline] at HRD3
          have hlk2 : (Instr.lookup 46 (.map (some w.heap.size)) (str y) false).run Tryd.prog w3 = .ok (.agg #[i64 s1, i64 s2]) w3 := hlk
          have hfld := fld0 s1 s2
          clear HLB hLB hsp hline hlk
          by_cases hs : s1 = num
          · have HRD4 : Hid (rdF M (rowsM c2 c3) (num + 1) o = RD) := (by have := HRD2.out; rw [HRD3.out, if_pos hs] at this; exact this : rdF M (rowsM c2 c3) (num + 1) o = RD)
            have hsb : ((s1 : Int) != (num : Int)) = false := by simp; omega
            clear hs
            go_wp2_with fail
            refine HLB2.out.mono ?_
            rintro e w4 ⟨rfl, rfl⟩
            go_wp2_with fail
            go_roundg (if c3 = true then c2.length + 1 else 0)
            case measure => exact hLE
            case rel => exact ⟨c2, c3, num + 1, o, HH.out.next HSZ.out HSZ'.out (by go_num) (by omega) HRD4.out HO3.out HM3.out HB3.out (by omega)⟩
          · have HX : Hid (RR = ([], num)) := (by have := HRD2.out; rw [HRD3.out, if_neg hs] at this; rw [HRR.out, ← this]; rfl : RR = ([], num))
            have hsb : ((s1 : Int) != (num : Int)) = true := by simp; omega
            clear hs
            go_wp2_with fail
            refine HLB2.out.mono ?_
            rintro e w4 ⟨rfl, rfl⟩
            go_wp2_with fail
            try rw [Exit.noGoto_ret]
            go_ret2
            exact ⟨by rw [HX.out]; rfl, HB3.out⟩
        | none =>
          have HLB2 : Hid (Calls Tryd.prog 23 #[.slice ao NW cap] w3 fun e w' => e = .returned (.tuple #[str [], .bool false]) ∧ w' = w3) := HLB.out
          have HRD3 := rdF_op (M := M) (r := rowsM c2 c3) (num := num) (o := o) hLB
          rw [HRD2.out] at HRD3
          clear HLB hLB
          have HRN : Hid (RD = match opOf z with
            | none => .inr num
            | some k => match encF k t o.length M with
              | none => .inr num
              | some b => rdF M (rowsM c2 c3) (num + 1) (o ++ b)) := HRD3
          obtain ⟨wb, off, rfl, hwb, c0⟩ := HWS.out.at (k := 0) (by simp)
          rw [Nat.add_zero, List.getElem_cons_zero] at c0
          have HE3 : Hid (Env w3) := HE.out.below HB3.out
          have HWT : Hid (WSl w3 (some ⟨wb, off + 1, none⟩) t) := HWS.out.tail
          have HTL : Hid (t.length = NW - 1) := (by have := HNW.out; simp at this; omega : t.length = NW - 1)
          clear HRD3
          go_wp2_with fail
          refine HLB2.out.mono ?_
          rintro e w4 ⟨rfl, rfl⟩
          go_wp2_with (refine wpList_load_mid rfl 59 (.global 0) rfl 0 0 rfl fcells _ HE3.out.forms Tryd.underlying59 rfl (by kernel_rfl) ?_)
          go_loopg [6, 52] 21 (fun g2 v6 v52 wy => ∃ k : Nat, k + g2 = 21 ∧ v52 = i64 k ∧ v6 = u6 ∧ (∀ j, j < k → (nmOf j == z) = false) ∧ Below w4.heap.size w4 wy)
          case atStart => exact ⟨0, rfl, rfl, rfl, (fun j hj => by omega), Below.refl _ _⟩
          case round =>
            obtain ⟨k, hkg, rfl, rfl, hno, hby⟩ := hrel
            have HBY : Hid (Below w4.heap.size w4 wr) := hby
            have hzy := hby.size
            have c0y : wr.cell? ⟨wb, off, none⟩ = some (str z) := (hby.cell (by exact hwb)).trans c0
            have hwbr : wb < wr.heap.size := by omega
            by_cases hk21 : k < 21
            · have hidx := fun W => fidx W k hk21
              obtain ⟨T, hT⟩ : ∃ T, (nmOf k == z) = T := ⟨_, rfl⟩
              have HNO : Hid (∀ j, j < k → (nmOf j == z) = false) := hno
              have HTT : Hid ((nmOf k == z) = T) := hT
              obtain ⟨W, hW⟩ : ∃ W, W = wr.alloc (.cells #[str (nmOf k), i64 (rg k : Nat), i64 (fNums k : Nat), .bool (fLab k)] 58) := ⟨_, rfl⟩
              have HW : Hid (W = wr.alloc (.cells #[str (nmOf k), i64 (rg k : Nat), i64 (fNums k : Nat), .bool (fLab k)] 58)) := hW
              have hbW : Below wr.heap.size wr W := by rw [hW]; exact below_one _ _
              have q0 : W.cell? ⟨wr.heap.size, 0, none⟩ = some (str (nmOf k)) := by
                rw [cell_of_row W wr.heap.size 0 _ 58 (0, 0) (by rw [hW]; exact heap_at rfl _)]
                rfl
              have cW : W.cell? ⟨wb, off, none⟩ = some (str z) := (hbW.cell (by exact hwbr)).trans c0y
              have HBW : Hid (Below w4.heap.size w4 W) := HBY.out.trans (hbW.mono hzy)
              have hWz := HBW.out.size
              have hWs : wr.heap.size < W.heap.size := by rw [hW]; simp
              clear hno hby hW hbW
              cases T
              · have HN2 : Hid (∀ j, j < k + 1 → (nmOf j == z) = false) := fun j hj => by
                  by_cases h : j < k
                  · exact HNO.out j h
                  · obtain rfl : j = k := by omega
                    exact HTT.out
                go_upto_region 18 with fail
                rw [← HW.out]
                clear hidx c0y
                generalize nmOf k = nk at *
                go_wp2_with fail
                go_quiet (fail)
                go_wp2_with fail
                go_roundg (gk - 1)
                case measure => omega
                case rel => exact ⟨k + 1, by omega, by go_num, rfl, HN2.out, HBW.out.trans ⟨rfl, rfl, rfl, Nat.le_refl _, fun _ _ => rfl⟩⟩
              · have HOP : Hid (opOf z = some k) := opOf_some hk21 HTT.out HNO.out
                have HRE : Hid (RD = match encF k t o.length M with
                  | none => .inr num
                  | some b => rdF M (rowsM c2 c3) (num + 1) (o ++ b)) := (by have := HRN.out; rw [HOP.out] at this; exact this : RD = match encF k t o.length M with
                  | none => .inr num
                  | some b => rdF M (rowsM c2 c3) (num + 1) (o ++ b))
                have HENC : Hid (∀ W' ao' c, Below w4.heap.size w4 W' → WSl w4 ao' t → Calls Tryd.prog 24 #[i64 k, .slice ao' (NW - 1) c, i64 o.length, .map (some w.heap.size)] W' fun e w' => e = .returned (.tuple #[str ((encF k t o.length M).getD []), .bool (encF k t o.length M).isSome]) ∧ Below W'.heap.size W' w') := fun W' ao' c hb hw => by
                  have := enc_any W' (HE3.out.below hb) k hk21 t ao' c (hw.below hb) (by rw [HTL.out]; omega) (fun y hy => HWZ.out y (by simp [hy])) o.length (by omega) w.heap.size M (HM3.out.below hb) HLM.out
                  rw [HTL.out] at this
                  exact this
                have HTN : Hid (NW ≤ 1 → WSl w4 (some ⟨wb, off, none⟩) t) := fun h => Or.inl (List.eq_nil_of_length_eq_zero (by rw [HTL.out]; omega))
                have HLE4 : Hid (∀ b, encF k t o.length M = some b → b.length ≤ 4) := fun b hb => encF_le hb
                obtain ⟨ao6, cap6, rfl⟩ := own_sl HO3.out
                have holI : o.length ≤ 400010 := by omega
                have HBD : Hid (∀ n, Below w4.heap.size w4 (W.drewN n)) := fun n => HBW.out.trans ⟨rfl, rfl, rfl, Nat.le_refl _, fun _ _ => rfl⟩
                have hw14 : w1.heap.size ≤ w4.heap.size := by omega
                cases hEB : encF k t o.length M with
                | none =>
                  rw [hEB] at HENC HRE
                  have HX : Hid (RR = ([], num)) := (by rw [HRR.out, HRE.out]; rfl : RR = ([], num))
                  clear hEB HLE4 HRE
                  go_upto_region 18 with fail
                  rw [← HW.out]
                  clear hidx c0y HRN
                  generalize nmOf k = nk at *
                  go_wp2_with fail
                  go_quiet (fail)
                  go_wp2_with fail
                  all_goals
                    refine (HENC.out _ _ _ (HBD.out _) (by first | exact HWT.out | exact HTN.out (by omega))).mono ?_
                    rintro e w6 ⟨rfl, hb6⟩
                    have HB6 : Hid (Below w.heap.size w w6) := HB3.out.trans (((HBD.out _).trans (hb6.mono hWz)).mono (by omega))
                    clear hb6
                    go_wp2_with fail
                    try rw [Exit.noGoto_ret]
                    go_ret2
                    exact ⟨by rw [HX.out]; rfl, HB6.out⟩
                | some eb =>
                  have heb := HLE4.out eb hEB
                  rw [hEB] at HENC HRE
                  have HRE2 : Hid (rdF M (rowsM c2 c3) (num + 1) (o ++ eb) = RD) := HRE.out.symm
                  clear hEB HLE4 HRE
                  go_upto_region 18 with fail
                  rw [← HW.out]
                  clear hidx c0y HRN
                  generalize nmOf k = nk at *
                  go_wp2_with fail
                  go_quiet (fail)
                  go_wp2_with fail
                  all_goals
                    refine (HENC.out _ _ _ (HBD.out _) (by first | exact HWT.out | exact HTN.out (by omega))).mono ?_
                    rintro e w6 ⟨rfl, hb6⟩
                    have hb46 : Below w4.heap.size w4 w6 := (HBD.out _).trans (hb6.mono hWz)
                    have HB6 : Hid (Below w.heap.size w w6) := HB3.out.trans (hb46.mono (by omega))
                    have HM6 : Hid (MapS w6 w.heap.size M) := HM3.out.below hb46
                    have HO6 : Hid (w6.ownsRow w1.heap.size 5 1 (.slice ao6 o.length cap6) o.length (cells o)) := own_below HO3.out hb46
                    have hz6 := hb46.size
                    clear hb6 hb46
                    go_wp2_with (at_builtin; refine app9 rfl (.tmp 75) (.tmp 76) rfl w1.heap.size _ o.length _ rfl HO6.out eb rfl (by omega) (by omega) ?_; intro v7 w7 ho7 hb7; have HO7 : Hid (w7.ownsRow w1.heap.size 5 1 v7 (o.length + eb.length) (cells o ++ cells eb)) := ho7; have HB7 : Hid (Below w1.heap.size w6 w7) := hb7; have hz7 := hb7.size; clear ho7 hb7)
                    go_roundg (if c3 = true then c2.length + 1 else 0)
                    case measure => exact hLE
                    case rel => exact ⟨c2, c3, num + 1, o ++ eb, HH.out.next HSZ.out HSZ'.out (by go_num) (by rw [List.length_append]; omega) HRE2.out (by rw [List.length_append, cells_app]; exact HO7.out) (HM6.out.kept (HB7.out.block _ hz1)) (HB6.out.trans (HB7.out.mono (by omega))) (by omega)⟩
            · have HOP : Hid (opOf z = none) := opOf_none (fun j hj => hno j (by omega))
              have HX : Hid (RR = ([], num)) := (by have := HRN.out; rw [HOP.out] at this; rw [HRR.out, this]; rfl : RR = ([], num))
              clear hno hby
              go_wp2_with fail
              try rw [Exit.noGoto_ret]
              go_ret2
              exact ⟨by rw [HX.out]; rfl, HB3.out.trans (HBY.out.mono (by omega))⟩
end Go.Proofs.YtobkehlkopkaeaaDoor
