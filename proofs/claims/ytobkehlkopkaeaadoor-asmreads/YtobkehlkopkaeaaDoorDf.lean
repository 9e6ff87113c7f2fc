/- The document's instruction of a line; no statement is proved in this text. -/
import Derived.Test.YtobkehlkopkaeaaDoorDe
import Derived.Test.YtobkehlkopkaeaaDoorDigits
import Derived.Test.YtobkehlkopkaeaaDoorIs
import Derived.Test.YtobkehlkopkaeaaDoorRAt
import Derived.Deep.RegionWith
import Derived.Deep.DeepCutAuto
import Derived.Deep.CutRange
namespace Go.Proofs.YtobkehlkopkaeaaDoor
open Go.ChangeShapes Go.WideShapes Go.ChangeAt Go.RowKit
set_option maxRecDepth 100000

/-- A word of a line, read: the register or the number or the label that it is. -/
def stD (c : UInt8) (k : Nat) (x : Bs) (s : In × Bs) : Option (In × Bs) :=
  if c = 114 then (if regD x < 0 then none else some ((if k = 0 then ⟨s.1.op, regD x, s.1.b, s.1.n⟩ else ⟨s.1.op, s.1.a, regD x, s.1.n⟩), s.2))
  else if c = 108 ∧ labB x = true then some (s.1, x)
  else if numD x < 0 then none else some (⟨s.1.op, s.1.a, s.1.b, numD x⟩, s.2)
def lpD : List (UInt8 × Bs) → Nat → In × Bs → Option (In × Bs)
  | [], _, s => some s
  | (c, x) :: r, k, s => match stD c k x s with
    | none => none
    | some s' => lpD r (k + 1) s'
def zeroD : In × Bs × Bool := (zI, [], false)
def ofD (ws : List Bs) : In × Bs × Bool := match opOf (ws.headD []) with
  | none => zeroD
  | some op => if (shpF op).length = ws.length - 1 then
      match lpD ((shpF op).zip ws.tail) 0 (⟨op, 0, 0, 0⟩, []) with
      | none => zeroD
      | some s => if isI s.1 then (s.1, s.2, true) else zeroD
    else zeroD
def ofV (r : In × Bs × Bool) : Value := .agg #[i64 r.1.op, i64 r.1.a, i64 r.1.b, i64 r.1.n, str r.2.1, .bool r.2.2]
theorem rname_at (w : World) (k : Nat) (hk : k ≤ 20) : Calls Tryd.prog 18 #[i64 k] w fun e w' => e = .returned (str (nmOf k)) ∧ Below w.heap.size w w' := by
  have := rname_ok w k
  rw [if_pos (by omega), Int.toNat_natCast] at this
  exact this
theorem nmq {k : Nat} {x : Bs} (h : k < 21) : (!(nmOf k == x)) = decide (k < 21 ∧ nmOf k ≠ x) := by
  by_cases h2 : nmOf k = x
  · rw [decide_eq_false (fun h3 => h3.2 h2), h2]; simp
  · rw [decide_eq_true ⟨h, h2⟩, beq_eq_false_iff_ne.2 h2]; rfl
/-- What stands between two words. -/
structure MidO (w wr : World) (B : Nat) (i : In) (lab : Bs) : Prop where
  got : wr.heap[w.heap.size]? = some (.cells #[i64 0, i64 0, i64 0, i64 0, str [], .bool false] 68 (0, 0))
  ins : wr.heap[B]? = some (.cells #[i64 i.op, i64 i.a, i64 i.b, i64 i.n, str lab, .bool true] 68 (0, 0))
  bel : Below w.heap.size w wr
  lt : w.heap.size < B
theorem MidO.put {w wr : World} {B : Nat} {i i' : In} {lab lab' : Bs} (h : MidO w wr B i lab) (j : Nat) (v : Value)
    (he : (#[i64 i.op, i64 i.a, i64 i.b, i64 i.n, str lab, .bool true] : Array Value).set! j v = #[i64 i'.op, i64 i'.a, i64 i'.b, i64 i'.n, str lab', .bool true]) : MidO w (wr.setCell ⟨B, j, none⟩ v) B i' lab' := by
  refine ⟨?_, ?_, h.bel.setCell (Nat.le_of_lt h.lt) _, h.lt⟩
  · rw [Below.heap_setCell _ _ _ _ (by have := h.lt; show w.heap.size ≠ B; omega)]; exact h.got
  · rw [← he]
    simp [World.setCell, Array.getElem?_modify, h.ins]
theorem MidO.below {w wr w' : World} {B : Nat} {i : In} {lab : Bs} (h : MidO w wr B i lab) (hb : Below wr.heap.size wr w') : MidO w w' B i lab :=
  ⟨(hb.block _ (Array.getElem?_eq_some_iff.1 h.got).1).trans h.got, (hb.block _ (Array.getElem?_eq_some_iff.1 h.ins).1).trans h.ins, h.bel.trans (hb.mono h.bel.size), h.lt⟩
theorem zip_drop {sh : Bs} {ws : List Bs} {j : Nat} (h1 : j < sh.length) (h2 : j < ws.length) : (sh.drop j).zip (ws.drop j) = (sh[j], ws[j]) :: (sh.drop (j + 1)).zip (ws.drop (j + 1)) := by
  rw [List.drop_eq_getElem_cons h1, List.drop_eq_getElem_cons h2]; rfl
theorem shp_len (op : Int) : (shpF op).length ≤ 2 := by unfold shpF; (repeat' split) <;> simp
theorem lp_cons (c : UInt8) (x : Bs) (r : List (UInt8 × Bs)) (k : Nat) (s : In × Bs) : lpD ((c, x) :: r) k s = match stD c k x s with | none => none | some s' => lpD r (k + 1) s' := rfl
set_option maxHeartbeats 6400000 in
theorem of_ok (x0 : Bs) (ws : List Bs) (ao : Option Addr) (cap : Nat) (w : World) (hs : WSl w ao (x0 :: ws)) (hl : ∀ x ∈ x0 :: ws, x.length ≤ 1000000) (hn : ws.length ≤ 1000000) : Calls Tryd.prog 28 #[.slice ao (ws.length + 1) cap] w fun e w' => e = .returned (ofV (ofD (x0 :: ws))) ∧ Below w.heap.size w w' := by
  obtain ⟨b, off, rfl, hbl, c0⟩ := hs.at (k := 0) (by simp)
  rw [Nat.add_zero] at c0
  simp only [List.getElem_cons_zero] at c0
  have HN : Hid (∀ (k : Nat) w, k ≤ 20 → Calls Tryd.prog 18 #[i64 k] w fun e w' => e = .returned (str (nmOf k)) ∧ Below w.heap.size w w') := fun k w hk => rname_at w k hk
  have HSH : Hid (∀ w (op : Int), Calls Tryd.prog 38 #[i64 op] w fun e w' => e = .returned (str (shpF op)) ∧ w' = w) := shape_ok
  have HC0 : Hid (∀ W, Below w.heap.size w W → W.cell? ⟨b, off, none⟩ = some (str x0)) := fun W hb => (hb.cell (p := ⟨b, off, none⟩) hbl).trans c0
  have HWS : Hid (WSl w (some ⟨b, off, none⟩) (x0 :: ws)) := hs
  have HLW : Hid (∀ x ∈ x0 :: ws, x.length ≤ 1000000) := hl
  have hx0 := hl x0 (by simp)
  obtain ⟨RES, hRES⟩ : ∃ RES, RES = ofD (x0 :: ws) := ⟨_, rfl⟩
  have HR := hid hRES
  rw [← hRES]
  clear hRES hs hl c0
  go_enter Tryd.func28, Tryd.ntmps28
  go_wp2_with fail
  generalize hV : w.alloc (Obj.cells _ 68) = V
  have HBV : Hid (Below w.heap.size w V) := by rw [← hV]; exact below_one _ _
  have HV0 : Hid (V.heap[w.heap.size]? = some (.cells #[i64 0, i64 0, i64 0, i64 0, str [], .bool false] 68 (0, 0))) := by rw [← hV]; exact heap_at rfl _
  have hV0 : w.heap.size < V.heap.size := by rw [← hV]; simp
  clear hV
  go_loopg [3] 21 (fun g u wr => ∃ k : Nat, 21 - k ≤ g ∧ k ≤ 21 ∧ u = i64 k ∧ Hid (∀ j, j < k → (nmOf j == x0) = false) ∧ Hid (Below V.heap.size V wr))
  case atStart => exact ⟨0, by omega, by omega, rfl, (fun j hj => absurd hj (by omega)), Below.refl _ _⟩
  case round =>
    obtain ⟨k, hg, hk, rfl, HK, HB⟩ := hrel
    have hzr := HB.out.size
    have hcr : wr.cell? ⟨b, off, none⟩ = some (str x0) := HC0.out wr (HBV.out.trans (HB.out.mono (by omega)))
    go_upto_region 2 with fail
    go_cut [17] from 8 to 19 (fun u wx => u = .bool (decide (k < 21 ∧ nmOf k ≠ x0)) ∧ Below wr.heap.size wr wx)
    case first =>
      by_cases hk21 : k < 21
      · have hki : (k : Int) < 21 := by omega
        go_region_with (go_at_call 18; refine (HN.out k _ (by omega)).mono ?_; rintro e w1 ⟨rfl, hb1⟩; have hb2 : Below wr.heap.size wr w1 := (Below.drew (Below.refl _ _)).trans hb1; have hc1 : w1.cell? ⟨b, off, none⟩ = some (str x0) := HC0.out w1 (HBV.out.trans ((HB.out.trans (hb2.mono hzr)).mono (by omega))); have HB1 : Hid (Below wr.heap.size wr w1) := hb2; clear hb1 hb2)
        all_goals (go_wp2_with fail; go_meet; exact ⟨congrArg Value.bool (nmq hk21), HB1.out⟩)
      · have hki : ¬ (k : Int) < 21 := by omega
        go_quiet (fail)
        go_wp2_with fail
        go_meet
        exact ⟨congrArg Value.bool (decide_eq_false (fun h => hk21 h.1)).symm, by first | exact Below.refl _ _ | exact Below.drew (Below.refl _ _) | exact below_drewN _ _⟩
    case rest =>
      obtain ⟨rfl, hbx⟩ := hcut
      have HBX : Hid (Below V.heap.size V wc) := HB.out.trans (hbx.mono hzr)
      clear hbx hcr HB
      by_cases hq : k < 21 ∧ nmOf k ≠ x0
      · rw [decide_eq_true hq]
        have HK2 : Hid (∀ j, j < k + 1 → (nmOf j == x0) = false) := fun j hj => by
          by_cases h : j < k
          · exact HK.out j h
          · obtain rfl : j = k := by omega
            simpa using hq.2
        go_wp2_with fail
        go_roundg (21 - (k + 1))
        case measure => omega
        case rel => exact ⟨k + 1, by omega, by omega, by go_num, HK2, HBX⟩
      · rw [decide_eq_false hq]
        have HVZ : Hid (wc.heap[w.heap.size]? = some (.cells #[i64 0, i64 0, i64 0, i64 0, str [], .bool false] 68 (0, 0))) := (HBX.out.block _ hV0).trans HV0.out
        have HBW : Hid (Below w.heap.size w wc) := HBV.out.trans (HBX.out.mono (by omega))
        by_cases hk21 : k = 21
        · subst hk21
          have HF : Hid (RES = zeroD) := by
            show _ = _
            rw [HR.out]; unfold ofD; rw [List.headD_cons, opOf_none HK.out]
          clear hq HR HK
          obtain ⟨⟨g0, g1, g2, g3, g4, g5⟩, gf⟩ := six_at _ _ _ _ _ _ 68 HVZ.out
          have f0 := gf 0
          have f1 := gf 1
          have f2 := gf 2
          have f3 := gf 3
          have f4 := gf 4
          have f5 := gf 5
          have HZ := hid HVZ.out
          clear gf
          go_wp2_with fail
          have HBX : Below w.heap.size w ((((((wc.setCell ⟨w.heap.size, 0, none⟩ (i64 0)).setCell ⟨w.heap.size, 1, none⟩ (i64 0)).setCell ⟨w.heap.size, 2, none⟩ (i64 0)).setCell ⟨w.heap.size, 3, none⟩ (i64 0)).setCell ⟨w.heap.size, 4, none⟩ (str [])).setCell ⟨w.heap.size, 5, none⟩ (.bool false)) := ((((((HBW.out.setCell (Nat.le_refl _) _).setCell (Nat.le_refl _) _).setCell (Nat.le_refl _) _).setCell (Nat.le_refl _) _).setCell (Nat.le_refl _) _).setCell (Nat.le_refl _) _)
          obtain ⟨⟨e0, e1, e2, e3, e4, e5⟩, _⟩ := six_at _ _ _ _ _ _ 68 (put6 HZ.out (i64 0) (i64 0) (i64 0) (i64 0) (str []) (.bool false))
          generalize ((((((wc.setCell ⟨w.heap.size, 0, none⟩ (i64 0)).setCell ⟨w.heap.size, 1, none⟩ (i64 0)).setCell ⟨w.heap.size, 2, none⟩ (i64 0)).setCell ⟨w.heap.size, 3, none⟩ (i64 0)).setCell ⟨w.heap.size, 4, none⟩ (str [])).setCell ⟨w.heap.size, 5, none⟩ (.bool false)) = W9 at HBX e0 e1 e2 e3 e4 e5 ⊢
          exact bodyPost_ret (v := ofV zeroD) (by simp [results, Tryd.results28, go_sem, ofV, zeroD, zI, e0, e1, e2, e3, e4, e5]) rfl ⟨by rw [HF.out], HBX⟩
        · have hk2 : k < 21 := by omega
          have hnk : nmOf k = x0 := Classical.byContradiction fun h => hq ⟨hk2, h⟩
          have hop : opOf x0 = some k := opOf_some hk2 (by rw [hnk]; simp) HK.out
          have hki : ¬ (20 : Int) < (k : Int) := by omega
          have HR2 : Hid (RES = if (shpF k).length = ws.length then (match lpD ((shpF k).zip ws) 0 (⟨k, 0, 0, 0⟩, []) with | none => zeroD | some s => if isI s.1 then (s.1, s.2, true) else zeroD) else zeroD) := by
            show _ = _
            rw [HR.out]; unfold ofD; rw [List.headD_cons, hop]; rfl
          have hs2 := shp_len (k : Int)
          obtain ⟨sh, hsh⟩ : ∃ sh, sh = shpF (k : Int) := ⟨_, rfl⟩
          obtain ⟨S, hS⟩ : ∃ S : ByteArray, S = ⟨sh.toArray⟩ := ⟨_, rfl⟩
          have HSK : Hid (∀ w, Calls Tryd.prog 38 #[i64 k] w fun e w' => e = .returned (.string S) ∧ w' = w) := fun w => by rw [hS, hsh]; exact HSH.out w k
          have hsz : S.size = sh.length := by rw [hS, bz]
          have HSB : Hid (∀ j (h : j < sh.length) h2, (S[j]'h2).toNat = (sh[j]'h).toNat) := fun j h h2 => by subst hS; rfl
          rw [← hsh] at HR2 hs2
          clear hq hk21 HK hnk hop HSH hsh hS HR
          go_wp2_with fail
          refine (HSK.out _).mono ?_
          rintro e w2 ⟨rfl, rfl⟩
          by_cases hlen : sh.length = ws.length
          · have HLN : Hid (sh.length = ws.length) := hlen
            have hle : ((S.size : Int) != (((ws.length : Int) + 1) - 1)) = false := by rw [hsz, hlen]; simp
            have hle2 : ((S.size : Int) == (((ws.length : Int) + 1) - 1)) = true := by rw [hsz, hlen]; simp
            have hle3 : (S.size : Int) = ((ws.length : Int) + 1) - 1 := by rw [hsz, hlen]; simp
            have HRS : Hid (RES = match lpD (sh.zip ws) 0 (⟨k, 0, 0, 0⟩, []) with | none => zeroD | some s => if isI s.1 then (s.1, s.2, true) else zeroD) := by
              show _ = _
              rw [HR2.out, if_pos hlen]
            clear HR2
            go_wp2_with fail
            have HM0 : Hid (MidO w (w2.alloc (.cells #[i64 k, i64 0, i64 0, i64 0, str [], .bool true] 68)) w2.heap.size ⟨k, 0, 0, 0⟩ []) := by
              have hlt := (Array.getElem?_eq_some_iff.1 HVZ.out).1
              refine ⟨?_, heap_at rfl _, HBW.out.alloc (by omega) _, hlt⟩
              rw [Below.heap_alloc _ _ _ hlt]
              exact HVZ.out
            clear hle hle2 hle3 hki
            go_loopg [5] 3 (fun g u wr => ∃ (j : Nat) (i : In) (lab : Bs), 3 - j ≤ g ∧ j ≤ sh.length ∧ u = i64 j ∧ Hid (lpD (sh.zip ws) 0 (⟨k, 0, 0, 0⟩, []) = lpD ((sh.drop j).zip (ws.drop j)) j (i, lab)) ∧ Hid (MidO w wr w2.heap.size i lab))
            case atStart => exact ⟨0, ⟨k, 0, 0, 0⟩, [], by omega, by omega, rfl, rfl, HM0⟩
            case round =>
              obtain ⟨j, i, lab, hg2, hj, rfl, HLP, HM⟩ := hrel
              clear HM0 HVZ HBW HBX
              by_cases hjl : j < sh.length
              · have hjs : (j : Int) < (S.size : Int) := by omega
                have hjS : j < S.size := by omega
                have hjw : j < ws.length := by have := HLN.out; omega
                have HLP2 : Hid (lpD (sh.zip ws) 0 (⟨k, 0, 0, 0⟩, []) = lpD ((sh[j], ws[j]) :: (sh.drop (j + 1)).zip (ws.drop (j + 1))) j (i, lab)) := by show _ = _; rw [HLP.out, zip_drop hjl hjw]
                have hxr : wr.cell? ⟨b, off + (j + 1), none⟩ = some (str ws[j]) := by
                  obtain ⟨b', off', h1, _, h2⟩ := HWS.out.at (k := j + 1) (by simp; omega)
                  cases h1
                  exact (HM.out.bel.cell (p := ⟨b, off + (j + 1), none⟩) hbl).trans (by simpa using h2)
                have hxl := HLW.out ws[j] (by simp)
                have hcb := HSB.out j hjl hjS
                generalize ws[j] = x at *
                generalize sh[j] = c at *
                have HN54 : Hid (∀ W, Calls Tryd.prog 54 #[str x] W fun e w' => e = .returned (i64 (numD x)) ∧ w' = W) := fun W => by
                  have := rnum_s ⟨x.toArray⟩ W (by rw [bz]; exact hxl)
                  simpa using this
                have HN55 : Hid (∀ W, Calls Tryd.prog 55 #[str x] W fun e w' => e = .returned (i64 (regD x)) ∧ w' = W) := fun W => by
                  have := rreg_s ⟨x.toArray⟩ W
                  simpa using this
                have HN53 : Hid (∀ W, Calls Tryd.prog 53 #[str x] W fun e w' => e = .returned (.bool (labB x)) ∧ w' = W) := fun W => by
                  have := rlabel_s ⟨x.toArray⟩ W (by rw [bz]; exact hxl)
                  simpa using this
                have HST : Hid (stD c j x (i, lab) = if c = 114 then (if regD x < 0 then none else some ((if j = 0 then ⟨i.op, regD x, i.b, i.n⟩ else ⟨i.op, i.a, regD x, i.n⟩), lab)) else if c = 108 ∧ labB x = true then some (i, x) else if numD x < 0 then none else some (⟨i.op, i.a, i.b, numD x⟩, lab)) := (rfl : stD c j x (i, lab) = _)
                clear hxl HLP
                generalize numD x = NX at *
                generalize regD x = RX at *
                generalize labB x = LX at *
                obtain ⟨⟨d0, d1, d2, d3, d4, d5⟩, df⟩ := six_at _ _ _ _ _ _ 68 HM.out.ins
                have df1 := df 1
                have df2 := df 2
                have df3 := df 3
                have df4 := df 4
                clear df
                by_cases hc : c = 114
                · have hci : ((S[j].toNat : Int) == 114) = true := by rw [hcb, hc]; rfl
                  have HC : Hid (c = 114) := hc
                  clear hcb hc
                  by_cases hj0 : j = 0
                  · have hj0i : ((j : Int) == 0) = true := by rw [hj0]; rfl
                    have HJ0 : Hid (j = 0) := hj0
                    clear hj0
                    go_upto_region 21 with (first | (go_at_call 38; refine (HSK.out _).mono ?_; rintro e w5 ⟨rfl, rfl⟩) | (go_at_call 54; refine (HN54.out _).mono ?_; rintro e w5 ⟨rfl, rfl⟩) | (go_at_call 55; refine (HN55.out _).mono ?_; rintro e w5 ⟨rfl, rfl⟩) | (go_at_call 53; refine (HN53.out _).mono ?_; rintro e w5 ⟨rfl, rfl⟩))
                    have HM6 := hid (HM.out.put (i' := ⟨i.op, RX, i.b, i.n⟩) (lab' := lab) 1 (i64 RX) rfl)
                    generalize World.setCell _ ⟨w2.heap.size, 1, none⟩ (i64 RX) = W6 at HM6 ⊢
                    by_cases hv : RX < 0
                    · have HF : Hid (RES = zeroD) := by show _ = _; rw [HRS.out, HLP2.out, lp_cons, HST.out]; simp [hv, HC.out]
                      obtain ⟨⟨g0, g1, g2, g3, g4, g5⟩, gf⟩ := six_at _ _ _ _ _ _ 68 HM6.out.got
                      have f0 := gf 0
                      have f1 := gf 1
                      have f2 := gf 2
                      have f3 := gf 3
                      have f4 := gf 4
                      have f5 := gf 5
                      have HZ := hid HM6.out.got
                      clear gf
                      go_wp2_with fail
                      have HBX : Below w.heap.size w ((((((W6.setCell ⟨w.heap.size, 0, none⟩ (i64 0)).setCell ⟨w.heap.size, 1, none⟩ (i64 0)).setCell ⟨w.heap.size, 2, none⟩ (i64 0)).setCell ⟨w.heap.size, 3, none⟩ (i64 0)).setCell ⟨w.heap.size, 4, none⟩ (str [])).setCell ⟨w.heap.size, 5, none⟩ (.bool false)) := ((((((HM6.out.bel.setCell (Nat.le_refl _) _).setCell (Nat.le_refl _) _).setCell (Nat.le_refl _) _).setCell (Nat.le_refl _) _).setCell (Nat.le_refl _) _).setCell (Nat.le_refl _) _)
                      obtain ⟨⟨e0, e1, e2, e3, e4, e5⟩, _⟩ := six_at _ _ _ _ _ _ 68 (put6 HZ.out (i64 0) (i64 0) (i64 0) (i64 0) (str []) (.bool false))
                      generalize ((((((W6.setCell ⟨w.heap.size, 0, none⟩ (i64 0)).setCell ⟨w.heap.size, 1, none⟩ (i64 0)).setCell ⟨w.heap.size, 2, none⟩ (i64 0)).setCell ⟨w.heap.size, 3, none⟩ (i64 0)).setCell ⟨w.heap.size, 4, none⟩ (str [])).setCell ⟨w.heap.size, 5, none⟩ (.bool false)) = W9 at HBX e0 e1 e2 e3 e4 e5 ⊢
                      exact bodyPost_ret (v := ofV zeroD) (by simp [results, Tryd.results28, go_sem, ofV, zeroD, zI, e0, e1, e2, e3, e4, e5]) rfl ⟨by rw [HF.out], HBX⟩
                    · have HL2 : Hid (lpD (sh.zip ws) 0 (⟨k, 0, 0, 0⟩, []) = lpD ((sh.drop (j + 1)).zip (ws.drop (j + 1))) (j + 1) (⟨i.op, RX, i.b, i.n⟩, lab)) := by show _ = _; rw [HLP2.out, lp_cons, HST.out]; simp [hv, HC.out, HJ0.out]
                      go_wp2_with fail
                      go_roundg (3 - (j + 1))
                      case measure => omega
                      case rel => exact ⟨j + 1, ⟨i.op, RX, i.b, i.n⟩, lab, by omega, by omega, by go_num, HL2, HM6⟩
                  · have hj0i : ((j : Int) == 0) = false := by simpa using hj0
                    have HJ0 : Hid (¬ j = 0) := hj0
                    clear hj0
                    go_upto_region 21 with (first | (go_at_call 38; refine (HSK.out _).mono ?_; rintro e w5 ⟨rfl, rfl⟩) | (go_at_call 54; refine (HN54.out _).mono ?_; rintro e w5 ⟨rfl, rfl⟩) | (go_at_call 55; refine (HN55.out _).mono ?_; rintro e w5 ⟨rfl, rfl⟩) | (go_at_call 53; refine (HN53.out _).mono ?_; rintro e w5 ⟨rfl, rfl⟩))
                    have HM6 := hid (HM.out.put (i' := ⟨i.op, i.a, RX, i.n⟩) (lab' := lab) 2 (i64 RX) rfl)
                    generalize World.setCell _ ⟨w2.heap.size, 2, none⟩ (i64 RX) = W6 at HM6 ⊢
                    by_cases hv : RX < 0
                    · have HF : Hid (RES = zeroD) := by show _ = _; rw [HRS.out, HLP2.out, lp_cons, HST.out]; simp [hv, HC.out]
                      obtain ⟨⟨g0, g1, g2, g3, g4, g5⟩, gf⟩ := six_at _ _ _ _ _ _ 68 HM6.out.got
                      have f0 := gf 0
                      have f1 := gf 1
                      have f2 := gf 2
                      have f3 := gf 3
                      have f4 := gf 4
                      have f5 := gf 5
                      have HZ := hid HM6.out.got
                      clear gf
                      go_wp2_with fail
                      have HBX : Below w.heap.size w ((((((W6.setCell ⟨w.heap.size, 0, none⟩ (i64 0)).setCell ⟨w.heap.size, 1, none⟩ (i64 0)).setCell ⟨w.heap.size, 2, none⟩ (i64 0)).setCell ⟨w.heap.size, 3, none⟩ (i64 0)).setCell ⟨w.heap.size, 4, none⟩ (str [])).setCell ⟨w.heap.size, 5, none⟩ (.bool false)) := ((((((HM6.out.bel.setCell (Nat.le_refl _) _).setCell (Nat.le_refl _) _).setCell (Nat.le_refl _) _).setCell (Nat.le_refl _) _).setCell (Nat.le_refl _) _).setCell (Nat.le_refl _) _)
                      obtain ⟨⟨e0, e1, e2, e3, e4, e5⟩, _⟩ := six_at _ _ _ _ _ _ 68 (put6 HZ.out (i64 0) (i64 0) (i64 0) (i64 0) (str []) (.bool false))
                      generalize ((((((W6.setCell ⟨w.heap.size, 0, none⟩ (i64 0)).setCell ⟨w.heap.size, 1, none⟩ (i64 0)).setCell ⟨w.heap.size, 2, none⟩ (i64 0)).setCell ⟨w.heap.size, 3, none⟩ (i64 0)).setCell ⟨w.heap.size, 4, none⟩ (str [])).setCell ⟨w.heap.size, 5, none⟩ (.bool false)) = W9 at HBX e0 e1 e2 e3 e4 e5 ⊢
                      exact bodyPost_ret (v := ofV zeroD) (by simp [results, Tryd.results28, go_sem, ofV, zeroD, zI, e0, e1, e2, e3, e4, e5]) rfl ⟨by rw [HF.out], HBX⟩
                    · have HL2 : Hid (lpD (sh.zip ws) 0 (⟨k, 0, 0, 0⟩, []) = lpD ((sh.drop (j + 1)).zip (ws.drop (j + 1))) (j + 1) (⟨i.op, i.a, RX, i.n⟩, lab)) := by show _ = _; rw [HLP2.out, lp_cons, HST.out]; simp [hv, HC.out, HJ0.out]
                      go_wp2_with fail
                      go_roundg (3 - (j + 1))
                      case measure => omega
                      case rel => exact ⟨j + 1, ⟨i.op, i.a, RX, i.n⟩, lab, by omega, by omega, by go_num, HL2, HM6⟩
                · have hci : ((S[j].toNat : Int) == 114) = false := by
                    rw [hcb]; exact in_ne hc rfl
                  have HC : Hid (¬ c = 114) := hc
                  clear hc
                  by_cases hb : c = 108 ∧ LX = true
                  · have hci2 : ((S[j].toNat : Int) == 108) = true := by rw [hcb, hb.1]; rfl
                    obtain ⟨hb1, rfl⟩ := hb
                    have HB1 : Hid (c = 108) := hb1
                    clear hcb hb1
                    go_upto_region 21 with (first | (go_at_call 38; refine (HSK.out _).mono ?_; rintro e w5 ⟨rfl, rfl⟩) | (go_at_call 54; refine (HN54.out _).mono ?_; rintro e w5 ⟨rfl, rfl⟩) | (go_at_call 55; refine (HN55.out _).mono ?_; rintro e w5 ⟨rfl, rfl⟩) | (go_at_call 53; refine (HN53.out _).mono ?_; rintro e w5 ⟨rfl, rfl⟩))
                    have HM6 := hid (HM.out.put (i' := i) (lab' := x) 4 (str x) rfl)
                    generalize World.setCell _ ⟨w2.heap.size, 4, none⟩ (str x) = W6 at HM6 ⊢
                    have HL2 : Hid (lpD (sh.zip ws) 0 (⟨k, 0, 0, 0⟩, []) = lpD ((sh.drop (j + 1)).zip (ws.drop (j + 1))) (j + 1) (i, x)) := by show _ = _; rw [HLP2.out, lp_cons, HST.out]; simp [HB1.out]
                    go_wp2_with fail
                    go_roundg (3 - (j + 1))
                    case measure => omega
                    case rel => exact ⟨j + 1, i, x, by omega, by omega, by go_num, HL2, HM6⟩
                  · have HNB : Hid (¬ (c = 108 ∧ LX = true)) := hb
                    by_cases hb1 : c = 108
                    · have hci2 : ((S[j].toNat : Int) == 108) = true := by rw [hcb, hb1]; rfl
                      obtain rfl : LX = false := by cases LX with | false => rfl | true => exact absurd ⟨hb1, rfl⟩ hb
                      clear hcb hb1 hb
                      go_upto_region 21 with (first | (go_at_call 38; refine (HSK.out _).mono ?_; rintro e w5 ⟨rfl, rfl⟩) | (go_at_call 54; refine (HN54.out _).mono ?_; rintro e w5 ⟨rfl, rfl⟩) | (go_at_call 55; refine (HN55.out _).mono ?_; rintro e w5 ⟨rfl, rfl⟩) | (go_at_call 53; refine (HN53.out _).mono ?_; rintro e w5 ⟨rfl, rfl⟩))
                      have HM6 := hid (HM.out.put (i' := ⟨i.op, i.a, i.b, NX⟩) (lab' := lab) 3 (i64 NX) rfl)
                      generalize World.setCell _ ⟨w2.heap.size, 3, none⟩ (i64 NX) = W6 at HM6 ⊢
                      by_cases hv : NX < 0
                      · have HF : Hid (RES = zeroD) := by show _ = _; rw [HRS.out, HLP2.out, lp_cons, HST.out]; simp [hv, HC.out]
                        obtain ⟨⟨g0, g1, g2, g3, g4, g5⟩, gf⟩ := six_at _ _ _ _ _ _ 68 HM6.out.got
                        have f0 := gf 0
                        have f1 := gf 1
                        have f2 := gf 2
                        have f3 := gf 3
                        have f4 := gf 4
                        have f5 := gf 5
                        have HZ := hid HM6.out.got
                        clear gf
                        go_wp2_with fail
                        have HBX : Below w.heap.size w ((((((W6.setCell ⟨w.heap.size, 0, none⟩ (i64 0)).setCell ⟨w.heap.size, 1, none⟩ (i64 0)).setCell ⟨w.heap.size, 2, none⟩ (i64 0)).setCell ⟨w.heap.size, 3, none⟩ (i64 0)).setCell ⟨w.heap.size, 4, none⟩ (str [])).setCell ⟨w.heap.size, 5, none⟩ (.bool false)) := ((((((HM6.out.bel.setCell (Nat.le_refl _) _).setCell (Nat.le_refl _) _).setCell (Nat.le_refl _) _).setCell (Nat.le_refl _) _).setCell (Nat.le_refl _) _).setCell (Nat.le_refl _) _)
                        obtain ⟨⟨e0, e1, e2, e3, e4, e5⟩, _⟩ := six_at _ _ _ _ _ _ 68 (put6 HZ.out (i64 0) (i64 0) (i64 0) (i64 0) (str []) (.bool false))
                        generalize ((((((W6.setCell ⟨w.heap.size, 0, none⟩ (i64 0)).setCell ⟨w.heap.size, 1, none⟩ (i64 0)).setCell ⟨w.heap.size, 2, none⟩ (i64 0)).setCell ⟨w.heap.size, 3, none⟩ (i64 0)).setCell ⟨w.heap.size, 4, none⟩ (str [])).setCell ⟨w.heap.size, 5, none⟩ (.bool false)) = W9 at HBX e0 e1 e2 e3 e4 e5 ⊢
                        exact bodyPost_ret (v := ofV zeroD) (by simp [results, Tryd.results28, go_sem, ofV, zeroD, zI, e0, e1, e2, e3, e4, e5]) rfl ⟨by rw [HF.out], HBX⟩
                      · have HL2 : Hid (lpD (sh.zip ws) 0 (⟨k, 0, 0, 0⟩, []) = lpD ((sh.drop (j + 1)).zip (ws.drop (j + 1))) (j + 1) (⟨i.op, i.a, i.b, NX⟩, lab)) := by show _ = _; rw [HLP2.out, lp_cons, HST.out]; simp [hv, HC.out]
                        go_wp2_with fail
                        go_roundg (3 - (j + 1))
                        case measure => omega
                        case rel => exact ⟨j + 1, ⟨i.op, i.a, i.b, NX⟩, lab, by omega, by omega, by go_num, HL2, HM6⟩
                    · have hci2 : ((S[j].toNat : Int) == 108) = false := by rw [hcb]; exact in_ne hb1 rfl
                      clear hcb hb1 hb
                      go_upto_region 21 with (first | (go_at_call 38; refine (HSK.out _).mono ?_; rintro e w5 ⟨rfl, rfl⟩) | (go_at_call 54; refine (HN54.out _).mono ?_; rintro e w5 ⟨rfl, rfl⟩) | (go_at_call 55; refine (HN55.out _).mono ?_; rintro e w5 ⟨rfl, rfl⟩) | (go_at_call 53; refine (HN53.out _).mono ?_; rintro e w5 ⟨rfl, rfl⟩))
                      have HM6 := hid (HM.out.put (i' := ⟨i.op, i.a, i.b, NX⟩) (lab' := lab) 3 (i64 NX) rfl)
                      generalize World.setCell _ ⟨w2.heap.size, 3, none⟩ (i64 NX) = W6 at HM6 ⊢
                      by_cases hv : NX < 0
                      · have HF : Hid (RES = zeroD) := by show _ = _; rw [HRS.out, HLP2.out, lp_cons, HST.out]; simp [hv, HC.out, HNB.out]
                        obtain ⟨⟨g0, g1, g2, g3, g4, g5⟩, gf⟩ := six_at _ _ _ _ _ _ 68 HM6.out.got
                        have f0 := gf 0
                        have f1 := gf 1
                        have f2 := gf 2
                        have f3 := gf 3
                        have f4 := gf 4
                        have f5 := gf 5
                        have HZ := hid HM6.out.got
                        clear gf
                        go_wp2_with fail
                        have HBX : Below w.heap.size w ((((((W6.setCell ⟨w.heap.size, 0, none⟩ (i64 0)).setCell ⟨w.heap.size, 1, none⟩ (i64 0)).setCell ⟨w.heap.size, 2, none⟩ (i64 0)).setCell ⟨w.heap.size, 3, none⟩ (i64 0)).setCell ⟨w.heap.size, 4, none⟩ (str [])).setCell ⟨w.heap.size, 5, none⟩ (.bool false)) := ((((((HM6.out.bel.setCell (Nat.le_refl _) _).setCell (Nat.le_refl _) _).setCell (Nat.le_refl _) _).setCell (Nat.le_refl _) _).setCell (Nat.le_refl _) _).setCell (Nat.le_refl _) _)
                        obtain ⟨⟨e0, e1, e2, e3, e4, e5⟩, _⟩ := six_at _ _ _ _ _ _ 68 (put6 HZ.out (i64 0) (i64 0) (i64 0) (i64 0) (str []) (.bool false))
                        generalize ((((((W6.setCell ⟨w.heap.size, 0, none⟩ (i64 0)).setCell ⟨w.heap.size, 1, none⟩ (i64 0)).setCell ⟨w.heap.size, 2, none⟩ (i64 0)).setCell ⟨w.heap.size, 3, none⟩ (i64 0)).setCell ⟨w.heap.size, 4, none⟩ (str [])).setCell ⟨w.heap.size, 5, none⟩ (.bool false)) = W9 at HBX e0 e1 e2 e3 e4 e5 ⊢
                        exact bodyPost_ret (v := ofV zeroD) (by simp [results, Tryd.results28, go_sem, ofV, zeroD, zI, e0, e1, e2, e3, e4, e5]) rfl ⟨by rw [HF.out], HBX⟩
                      · have HL2 : Hid (lpD (sh.zip ws) 0 (⟨k, 0, 0, 0⟩, []) = lpD ((sh.drop (j + 1)).zip (ws.drop (j + 1))) (j + 1) (⟨i.op, i.a, i.b, NX⟩, lab)) := by show _ = _; rw [HLP2.out, lp_cons, HST.out]; simp [hv, HC.out, HNB.out]
                        go_wp2_with fail
                        go_roundg (3 - (j + 1))
                        case measure => omega
                        case rel => exact ⟨j + 1, ⟨i.op, i.a, i.b, NX⟩, lab, by omega, by omega, by go_num, HL2, HM6⟩
              · have hjs : ¬ (j : Int) < (S.size : Int) := by omega
                have HLP2 : Hid (lpD (sh.zip ws) 0 (⟨k, 0, 0, 0⟩, []) = some (i, lab)) := by
                  show _ = _
                  rw [HLP.out, List.drop_eq_nil_of_le (by omega)]; rfl
                have HRI : Hid (RES = if isI i then (i, lab, true) else zeroD) := by show _ = _; rw [HRS.out, HLP2.out]
                clear HLP HLP2
                obtain ⟨⟨d0, d1, d2, d3, d4, d5⟩, _⟩ := six_at _ _ _ _ _ _ 68 HM.out.ins
                have HI : Hid (∀ W, Calls Tryd.prog 37 #[inV i] W fun e w' => e = .returned (.bool (isI i)) ∧ Below W.heap.size W w') := fun W => is_ok W i
                generalize isI i = T at *
                go_wp2_with (go_at_call 38; refine (HSK.out _).mono ?_; rintro e w5 ⟨rfl, rfl⟩)
                refine (HI.out _).mono ?_
                rintro e w7 ⟨rfl, hb7⟩
                have HM6 : Hid (MidO w w7 w2.heap.size i lab) := HM.out.below hb7
                clear hb7 d0 d1 d2 d3 d4 d5
                cases T with
                | false =>
                  have HF : Hid (RES = zeroD) := by show _ = _; rw [HRI.out]; rfl
                  obtain ⟨⟨g0, g1, g2, g3, g4, g5⟩, gf⟩ := six_at _ _ _ _ _ _ 68 HM6.out.got
                  have f0 := gf 0
                  have f1 := gf 1
                  have f2 := gf 2
                  have f3 := gf 3
                  have f4 := gf 4
                  have f5 := gf 5
                  have HZ := hid HM6.out.got
                  clear gf
                  go_wp2_with fail
                  have HBX : Below w.heap.size w ((((((w7.setCell ⟨w.heap.size, 0, none⟩ (i64 0)).setCell ⟨w.heap.size, 1, none⟩ (i64 0)).setCell ⟨w.heap.size, 2, none⟩ (i64 0)).setCell ⟨w.heap.size, 3, none⟩ (i64 0)).setCell ⟨w.heap.size, 4, none⟩ (str [])).setCell ⟨w.heap.size, 5, none⟩ (.bool false)) := ((((((HM6.out.bel.setCell (Nat.le_refl _) _).setCell (Nat.le_refl _) _).setCell (Nat.le_refl _) _).setCell (Nat.le_refl _) _).setCell (Nat.le_refl _) _).setCell (Nat.le_refl _) _)
                  obtain ⟨⟨e0, e1, e2, e3, e4, e5⟩, _⟩ := six_at _ _ _ _ _ _ 68 (put6 HZ.out (i64 0) (i64 0) (i64 0) (i64 0) (str []) (.bool false))
                  generalize ((((((w7.setCell ⟨w.heap.size, 0, none⟩ (i64 0)).setCell ⟨w.heap.size, 1, none⟩ (i64 0)).setCell ⟨w.heap.size, 2, none⟩ (i64 0)).setCell ⟨w.heap.size, 3, none⟩ (i64 0)).setCell ⟨w.heap.size, 4, none⟩ (str [])).setCell ⟨w.heap.size, 5, none⟩ (.bool false)) = W9 at HBX e0 e1 e2 e3 e4 e5 ⊢
                  exact bodyPost_ret (v := ofV zeroD) (by simp [results, Tryd.results28, go_sem, ofV, zeroD, zI, e0, e1, e2, e3, e4, e5]) rfl ⟨by rw [HF.out], HBX⟩
                | true =>
                  have HF : Hid (RES = (i, lab, true)) := by show _ = _; rw [HRI.out]; rfl
                  obtain ⟨⟨d0, d1, d2, d3, d4, d5⟩, _⟩ := six_at _ _ _ _ _ _ 68 HM6.out.ins
                  obtain ⟨⟨g0, g1, g2, g3, g4, g5⟩, gf⟩ := six_at _ _ _ _ _ _ 68 HM6.out.got
                  have f0 := gf 0
                  have f1 := gf 1
                  have f2 := gf 2
                  have f3 := gf 3
                  have f4 := gf 4
                  have f5 := gf 5
                  have HZ := hid HM6.out.got
                  clear gf
                  go_wp2_with fail
                  have HBX : Below w.heap.size w ((((((w7.setCell ⟨w.heap.size, 0, none⟩ (i64 i.op)).setCell ⟨w.heap.size, 1, none⟩ (i64 i.a)).setCell ⟨w.heap.size, 2, none⟩ (i64 i.b)).setCell ⟨w.heap.size, 3, none⟩ (i64 i.n)).setCell ⟨w.heap.size, 4, none⟩ (str lab)).setCell ⟨w.heap.size, 5, none⟩ (.bool true)) := ((((((HM6.out.bel.setCell (Nat.le_refl _) _).setCell (Nat.le_refl _) _).setCell (Nat.le_refl _) _).setCell (Nat.le_refl _) _).setCell (Nat.le_refl _) _).setCell (Nat.le_refl _) _)
                  obtain ⟨⟨e0, e1, e2, e3, e4, e5⟩, _⟩ := six_at _ _ _ _ _ _ 68 (put6 HZ.out (i64 i.op) (i64 i.a) (i64 i.b) (i64 i.n) (str lab) (.bool true))
                  generalize ((((((w7.setCell ⟨w.heap.size, 0, none⟩ (i64 i.op)).setCell ⟨w.heap.size, 1, none⟩ (i64 i.a)).setCell ⟨w.heap.size, 2, none⟩ (i64 i.b)).setCell ⟨w.heap.size, 3, none⟩ (i64 i.n)).setCell ⟨w.heap.size, 4, none⟩ (str lab)).setCell ⟨w.heap.size, 5, none⟩ (.bool true)) = W9 at HBX e0 e1 e2 e3 e4 e5 ⊢
                  exact bodyPost_ret (v := ofV (i, lab, true)) (by simp [results, Tryd.results28, go_sem, ofV, e0, e1, e2, e3, e4, e5]) rfl ⟨by rw [HF.out], HBX⟩
          · have hle : ((S.size : Int) != (((ws.length : Int) + 1) - 1)) = true := by
              have : (S.size : Int) ≠ ((ws.length : Int) + 1) - 1 := by omega
              simpa using this
            have HF : Hid (RES = zeroD) := by show _ = _; rw [HR2.out, if_neg hlen]
            clear HR2
            obtain ⟨⟨g0, g1, g2, g3, g4, g5⟩, gf⟩ := six_at _ _ _ _ _ _ 68 HVZ.out
            have f0 := gf 0
            have f1 := gf 1
            have f2 := gf 2
            have f3 := gf 3
            have f4 := gf 4
            have f5 := gf 5
            have HZ := hid HVZ.out
            clear gf
            go_wp2_with fail
            have HBX : Below w.heap.size w ((((((w2.setCell ⟨w.heap.size, 0, none⟩ (i64 0)).setCell ⟨w.heap.size, 1, none⟩ (i64 0)).setCell ⟨w.heap.size, 2, none⟩ (i64 0)).setCell ⟨w.heap.size, 3, none⟩ (i64 0)).setCell ⟨w.heap.size, 4, none⟩ (str [])).setCell ⟨w.heap.size, 5, none⟩ (.bool false)) := ((((((HBW.out.setCell (Nat.le_refl _) _).setCell (Nat.le_refl _) _).setCell (Nat.le_refl _) _).setCell (Nat.le_refl _) _).setCell (Nat.le_refl _) _).setCell (Nat.le_refl _) _)
            obtain ⟨⟨e0, e1, e2, e3, e4, e5⟩, _⟩ := six_at _ _ _ _ _ _ 68 (put6 HZ.out (i64 0) (i64 0) (i64 0) (i64 0) (str []) (.bool false))
            generalize ((((((w2.setCell ⟨w.heap.size, 0, none⟩ (i64 0)).setCell ⟨w.heap.size, 1, none⟩ (i64 0)).setCell ⟨w.heap.size, 2, none⟩ (i64 0)).setCell ⟨w.heap.size, 3, none⟩ (i64 0)).setCell ⟨w.heap.size, 4, none⟩ (str [])).setCell ⟨w.heap.size, 5, none⟩ (.bool false)) = W9 at HBX e0 e1 e2 e3 e4 e5 ⊢
            exact bodyPost_ret (v := ofV zeroD) (by simp [results, Tryd.results28, go_sem, ofV, zeroD, zI, e0, e1, e2, e3, e4, e5]) rfl ⟨by rw [HF.out], HBX⟩
end Go.Proofs.YtobkehlkopkaeaaDoor
