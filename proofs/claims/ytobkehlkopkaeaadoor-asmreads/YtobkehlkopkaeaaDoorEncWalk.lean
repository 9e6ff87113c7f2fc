/- asm's encode: its contract; no statement is proved in this text. -/
import Derived.Test.YtobkehlkopkaeaaDoorEncode
namespace Go.Proofs.YtobkehlkopkaeaaDoor
open Go.ChangeShapes Go.WideShapes Go.ChangeAt Go.RowKit Go.ChangeMaps Go.MapKept
set_option maxRecDepth 100000

set_option maxHeartbeats 1600000 in
theorem enc_short (w : World) (he : Env w) (op : Nat) (hop : op < 21) (ws : List Bs) (ao : Option Addr) (cap : Nat) (_hn : ws.length ≤ 100) (a : Nat) (mv : Value) (M : Labs) (hne : ¬ ws.length = rg op + fNums op) :
    Calls Tryd.prog 24 #[i64 op, .slice ao ws.length cap, i64 a, mv] w fun e w' => e = .returned (.tuple #[str ((encF op ws a M).getD []), .bool (encF op ws a M).isSome]) ∧ Below w.heap.size w w' := by
  obtain ⟨c0, c1, c2, c3⟩ := he.form op hop
  have hw0 : 0 < w.heap.size := World.block_lt_of_cell? w _ c0
  have HF : Hid (encF op ws a M = none) := encF_len hne
  have hopI : (op : Int) < 21 := by omega
  have hr := rg_le op
  have hN : fNums op ≤ 1 := by unfold fNums; split <;> omega
  have hneb : ((ws.length : Int) != (rg op : Int) + (fNums op : Int)) = true := by simp; omega
  clear he hne
  generalize ws.length = n at *
  generalize rg op = R at *
  generalize fNums op = N at *
  generalize fLab op = L at *
  generalize nmOf op = x at *
  go_enter Tryd.func24, Tryd.ntmps24
  go_wp2_with fail
  go_ret2
  exact ⟨by rw [HF.out]; rfl, (Below.refl _ _).alloc (Nat.le_refl _) _⟩

set_option maxHeartbeats 1600000 in
theorem enc_ok (w : World) (he : Env w) (op : Nat) (hop : op < 21) (ws : List Bs) (ao : Option Addr) (cap : Nat) (hs : WSl w ao ws) (hl : ∀ x ∈ ws, x.length ≤ 1000000) (a : Nat) (ha : a ≤ 500000)
    (b : Nat) (M : Labs) (hm : MapS w b M) (hM : ∀ x s, lookL M x = some s → s.2 ≤ 500000 ∧ s.1 ≤ 1000000) (hlen : ws.length = rg op + fNums op) :
    Calls Tryd.prog 24 #[i64 op, .slice ao ws.length cap, i64 a, .map (some b)] w fun e w' => e = .returned (.tuple #[str ((encF op ws a M).getD []), .bool (encF op ws a M).isSome]) ∧ Below w.heap.size w w' := by
  obtain ⟨c0, c1, c2, c3⟩ := he.form op hop
  have hw0 : 0 < w.heap.size := World.block_lt_of_cell? w _ c0
  have HE : Hid (Env w) := he
  have HM : Hid (MapS w b M) := hm
  have HS : Hid (WSl w ao ws) := hs
  have HL : Hid (∀ x ∈ ws, x.length ≤ 1000000) := hl
  have hopI : (op : Int) < 21 := by omega
  have hr := rg_le op
  have hN : fNums op ≤ 1 := by unfold fNums; split <;> omega
  have HNO : Hid (∀ k, (hk : k < ws.length) → k < rg op → regF ws[k] = none → encF op ws a M = none) := fun k hk hR h => encF_regs (regsF_stop hk hR h)
  have HNUM : Hid (∀ rs n, regsF (ws.take (rg op)) = some rs → (if fNums op = 0 then some 0 else numW M op a (ws.getD (rg op) [])) = some n → (encF op ws a M).getD [] = btS ⟨op, rs.getD 0 0, rs.getD 1 0, (n : Nat)⟩ ∧ (encF op ws a M).isSome = (btE ⟨op, rs.getD 0 0, rs.getD 1 0, (n : Nat)⟩ == 0)) := fun rs n h1 h2 => encF_num hlen h1 n h2
  have HNN : Hid (∀ rs, regsF (ws.take (rg op)) = some rs → (if fNums op = 0 then some 0 else numW M op a (ws.getD (rg op) [])) = none → encF op ws a M = none) := fun rs h1 h2 => encF_none hlen h1 h2
  have HLM : Hid (∀ x s, lookL M x = some s → s.2 ≤ 500000 ∧ s.1 ≤ 1000000) := hM
  have HNW : Hid (∀ x, numW M op a x = match lookL M x with | some s => if fLab op = true then some (dist (a + sz op : Nat) (s.2 : Nat)) else numF x | none => numF x) := fun x => rfl
  have HZ : Hid (∀ w, Tab w → Calls Tryd.prog 40 #[i64 op] w fun e w' => e = .returned (i64 (sz op : Nat)) ∧ w' = w) := fun w ht => by
    have := size_ok w ht op
    unfold szI at this
    rw [if_pos (by omega), Int.toNat_natCast] at this
    exact this
  have hsz := sz_le op
  have HWL : Hid (ws.length = rg op + fNums op) := hlen
  clear he hm hs hl hM
  rw [hlen]
  generalize encF op ws a M = EF at *
  generalize sz op = Z at *
  generalize rg op = R at *
  generalize fNums op = N at *
  generalize fLab op = L at *
  generalize nmOf op = x at *
  clear hlen
  have heqb : (((R : Int) + (N : Int)) != (R : Int) + (N : Int)) = false := by simp
  go_enter Tryd.func24, Tryd.ntmps24
  go_wp2_with fail
  go_loopw [36] (fun i wr => ∃ (k : Nat) (rs : List Nat), i = i64 k ∧ k ≤ R ∧ rs.length = k ∧ regsF (ws.take k) = some rs ∧ EMid w wr x R N L (rs.getD 0 0) (rs.getD 1 0)) (fun i _ => R - (intOf i).toNat)
  case atStart =>
    refine ⟨0, [], rfl, by omega, rfl, rfl, ⟨((Below.refl _ _).alloc (Nat.le_refl _) _).alloc (by simp) _, ?_, ?_⟩⟩
    · rw [Below.heap_alloc _ _ _ (by simp)]
      exact heap_at rfl _
    · exact heap_at (by simp) _
  case round =>
    obtain ⟨k, rs, rfl, hk, hrl, hrs, hmid⟩ := hrel
    have hzr := hmid.bel.size
    have hz1 : w.heap.size + 1 < wr.heap.size := (Array.getElem?_eq_some_iff.1 hmid.reg).1
    have HK : Hid (EMid w wr x R N L (rs.getD 0 0) (rs.getD 1 0)) := hmid
    obtain ⟨f0, f1, f2, f3, _⟩ := four_cells hmid.frm
    obtain ⟨g0, g1, gz⟩ := two_cells hmid.reg
    have HRS : Hid (regsF (ws.take k) = some rs) := hrs
    clear hmid hrs
    by_cases hkR : k < R
    · have hkw : k < ws.length := by rw [HWL.out]; omega
      obtain ⟨wb, off, rfl, hwb, cw⟩ := HS.out.at hkw
      have cw2 : wr.cell? ⟨wb, off + k, none⟩ = some (str ws[k]) := (HK.out.bel.cell (by exact hwb)).trans cw
      have hwb2 : wb < wr.heap.size := by omega
      have HRG : Hid (∀ w, Calls Tryd.prog 49 #[str ws[k]] w fun e w' => e = .returned (.tuple #[i64 ((regF ws[k]).getD 0 : Nat), .bool (regF ws[k]).isSome]) ∧ w' = w) := fun w => reg_ok2 w _ (HL.out _ (List.getElem_mem hkw))
      have HNX : Hid (∀ r, regF ws[k] = some r → regsF (ws.take (k + 1)) = some (rs ++ [r])) := fun r hr => regsF_next hkw HRS.out hr
      have HN1 : Hid (regF ws[k] = none → EF = none) := fun h => HNO.out k hkw hkR h
      clear cw
      generalize ws[k] = y at *
      cases hy : regF y with
      | none =>
        have HE0 : Hid (EF = none) := HN1.out hy
        have HRG2 : Hid (∀ w, Calls Tryd.prog 49 #[str y] w fun e w' => e = .returned (.tuple #[i64 0, .bool false]) ∧ w' = w) := fun w => by have := HRG.out w; rw [hy] at this; exact this
        clear hy
        go_wp2_with fail
        refine (HRG2.out _).mono ?_
        rintro e w1 ⟨rfl, rfl⟩
        go_wp2_with fail
        go_ret2
        exact ⟨by rw [HE0.out]; rfl, HK.out.bel⟩
      | some r =>
        have HRS2 : Hid (regsF (ws.take (k + 1)) = some (rs ++ [r])) := HNX.out r hy
        have HRG2 : Hid (∀ w, Calls Tryd.prog 49 #[str y] w fun e w' => e = .returned (.tuple #[i64 r, .bool true]) ∧ w' = w) := fun w => by have := HRG.out w; rw [hy] at this; exact this
        clear hy
        rcases (show k = 0 ∨ k = 1 by omega) with rfl | rfl
        · obtain rfl := List.eq_nil_of_length_eq_zero hrl
          rw [Nat.add_zero] at cw2
          go_wp2_with fail
          refine (HRG2.out _).mono ?_
          rintro e w1 ⟨rfl, rfl⟩
          go_wp2_with fail
          exact ⟨⟨1, [r], by go_num, by omega, rfl, HRS2.out, HK.out.set0 r⟩, by simp [intOf]; omega⟩
        · obtain ⟨q, rfl⟩ : ∃ q, rs = [q] := by
            cases rs with
            | nil => simp at hrl
            | cons q t => exact ⟨q, by rw [List.eq_nil_of_length_eq_zero (show t.length = 0 by simpa using hrl)]⟩
          go_wp2_with fail
          refine (HRG2.out _).mono ?_
          rintro e w1 ⟨rfl, rfl⟩
          go_wp2_with fail
          exact ⟨⟨2, [q, r], by go_num, by omega, rfl, HRS2.out, HK.out.set1 r⟩, by simp [intOf]; omega⟩
    · obtain rfl : k = R := by omega
      have HNUM2 : Hid (∀ n : Nat, (if N = 0 then some 0 else numW M op a (ws.getD k [])) = some n → EF.getD [] = btS ⟨op, rs.getD 0 0, rs.getD 1 0, (n : Nat)⟩ ∧ EF.isSome = (btE ⟨op, rs.getD 0 0, rs.getD 1 0, (n : Nat)⟩ == 0)) := fun n h => HNUM.out rs n HRS.out h
      have HNN2 : Hid ((if N = 0 then some 0 else numW M op a (ws.getD k [])) = none → EF = none) := fun h => HNN.out rs HRS.out h
      clear HNUM HNN
      generalize rs.getD 0 0 = r0 at *
      generalize rs.getD 1 0 = r1 at *
      go_upto_region 14 with fail
      obtain ⟨V, hV⟩ : ∃ V, V = wr.alloc (.cells #[i64 op, i64 r0, i64 r1, i64 0] 27) := ⟨_, rfl⟩
      have hbV : Below wr.heap.size wr V := by rw [hV]; exact below_one _ _
      have hbwV : Below w.heap.size w V := HK.out.bel.trans (hbV.mono hzr)
      have hVs : V.heap.size = wr.heap.size + 1 := by rw [hV]; simp
      have hins : V.heap[wr.heap.size]? = some (.cells #[i64 op, i64 r0, i64 r1, i64 0] 27 (0, 0)) := by rw [hV]; exact heap_at rfl _
      have hfrm : V.heap[w.heap.size]? = some (.cells #[str x, i64 k, i64 N, .bool L] 58 (0, 0)) := (hbV.block _ (by omega)).trans HK.out.frm
      have HEV : Hid (Env V) := HE.out.below hbwV
      have HBV : Hid (Below w.heap.size w V) := hbwV
      have HMV : Hid (MapS V b M) := HM.out.below hbwV
      have HSV : Hid (WSl V ao ws) := HS.out.below hbwV
      rw [← hV]
      clear f0 f1 f2 f3 g0 g1 gz HRS HK HNO hkR hk hbV hbwV
      obtain ⟨f0, f1, f2, f3, _⟩ := four_cells hfrm
      obtain ⟨q0, q1, q2, q3, qz⟩ := four_cells hins
      have hwV : w.heap.size < V.heap.size := by omega
      have hrV : wr.heap.size < V.heap.size := by omega
      have hnV : ¬ w.heap.size = V.heap.size := by omega
      have hnr : ¬ wr.heap.size = V.heap.size := by omega
      have fA : ∀ o, (V.alloc o).cell? ⟨w.heap.size, 3, none⟩ = some (.bool L) := fun o => ((below_one V o).cell (p := ⟨w.heap.size, 3, none⟩) hwV).trans f3
      clear hfrm hV hVs
      rcases (show N = 0 ∨ N = 1 by omega) with rfl | rfl
      · obtain ⟨e1, e2⟩ := HNUM2.out 0 rfl
        have HE1 : Hid (EF.getD [] = btS ⟨op, r0, r1, ((0 : Nat) : Int)⟩) := e1
        have HE2 : Hid (EF.isSome = (btE ⟨op, r0, r1, ((0 : Nat) : Int)⟩ == 0)) := e2
        have HBY : Hid (∀ w, Tab w → Calls Tryd.prog 35 #[.agg #[i64 op, i64 r0, i64 r1, i64 0]] w fun e w' => e = .returned (.tuple #[str (EF.getD []), i64 (btE ⟨op, r0, r1, ((0 : Nat) : Int)⟩)]) ∧ Below w.heap.size w w') := fun w ht => by rw [HE1.out]; exact bytes_any w ht ⟨op, r0, r1, ((0 : Nat) : Int)⟩
        clear e1 e2 HNUM2 HNN2
        generalize btE ⟨op, r0, r1, ((0 : Nat) : Int)⟩ = be at *
        go_wp2_with fail
        refine (HBY.out _ HEV.out.tab).mono ?_
        rintro e w1 ⟨rfl, hb1⟩
        have HB1 : Hid (Below w.heap.size w w1) := HBV.out.trans (hb1.mono (by omega))
        clear hb1
        go_wp2_with fail
        go_ret2
        exact ⟨by rw [HE2.out]; rfl, HB1.out⟩
      · have hkw : k < ws.length := by rw [HWL.out]; omega
        obtain ⟨wb, off, rfl, hwb, cw⟩ := HSV.out.at hkw
        have hgd : ws.getD k [] = ws[k] := by simp [List.getD, List.getElem?_eq_getElem hkw]
        have hyl := HL.out _ (List.getElem_mem hkw)
        have hNW := HNW.out ws[k]
        have HNUM3 : Hid (∀ n : Nat, numW M op a ws[k] = some n → EF.getD [] = btS ⟨op, r0, r1, (n : Nat)⟩ ∧ EF.isSome = (btE ⟨op, r0, r1, (n : Nat)⟩ == 0)) := fun n h => HNUM2.out n (by rw [if_neg (by omega), hgd]; exact h)
        have HNN3 : Hid (numW M op a ws[k] = none → EF = none) := fun h => HNN2.out (by rw [if_neg (by omega), hgd]; exact h)
        have hlk := HMV.out.lkup ws[k] true
        have HLY := HLM.out ws[k]
        clear HNUM2 HNN2 HNW hgd
        generalize ws[k] = y at *
        by_cases hA : (lookL M y).isSome = true ∧ L = true
        · obtain ⟨h1, rfl⟩ := hA
          obtain ⟨⟨s1, s2⟩, hsp⟩ := Option.isSome_iff_exists.1 h1
          obtain ⟨hs2, hs1⟩ := HLY _ hsp
          rw [hsp] at hNW
          simp only [if_true] at hs1 hs2 hNW
          have hlk2 : (Instr.lookup 46 (.map (some b)) (str y) true).run Tryd.prog V = .ok (.tuple #[.agg #[i64 s1, i64 s2], .bool true]) V := by
            rw [hlk]; unfold lookR; rw [hsp]; rfl
          obtain ⟨e1, e2⟩ := HNUM3.out _ hNW
          have hds := fun w => dist_ok w (a + Z) s2 (by omega) (by omega)
          clear hlk HLY h1 hsp hNW HNUM3 HNN3
          generalize dist ((a + Z : Nat) : Int) (s2 : Int) = D at *
          have hwrp : IntKind.i64.wrap ((a : Int) + (Z : Int)) = (a : Int) + (Z : Int) := by
            rw [IntKind.wrap_i64]
            omega
          have HDS : Hid (∀ w, Calls Tryd.prog 50 #[i64 (IntKind.i64.wrap ((a : Int) + (Z : Int))), i64 s2] w fun e w' => e = .returned (i64 (D : Nat)) ∧ w' = w) := fun w => by have := hds w; rw [Int.natCast_add] at this; rw [hwrp]; exact this
          clear hwrp
          have HE1 : Hid (EF.getD [] = btS ⟨op, r0, r1, (D : Int)⟩) := e1
          have HE2 : Hid (EF.isSome = (btE ⟨op, r0, r1, (D : Int)⟩ == 0)) := e2
          have HBY : Hid (∀ w, Tab w → Calls Tryd.prog 35 #[.agg #[i64 op, i64 r0, i64 r1, i64 D]] w fun e w' => e = .returned (.tuple #[str (EF.getD []), i64 (btE ⟨op, r0, r1, (D : Int)⟩)]) ∧ Below w.heap.size w w') := fun w ht => by rw [HE1.out]; exact bytes_any w ht ⟨op, r0, r1, (D : Int)⟩
          clear e1 e2 hds
          generalize btE ⟨op, r0, r1, (D : Int)⟩ = be at *
          go_upto_region 18 with fail
          obtain ⟨V2, hV2⟩ : ∃ V2, V2 = V.alloc (.cells #[i64 s1, i64 s2] 56) := ⟨_, rfl⟩
          have hbV2 : Below V.heap.size V V2 := by rw [hV2]; exact below_one _ _
          have hspt : V2.heap[V.heap.size]? = some (.cells #[i64 s1, i64 s2] 56 (0, 0)) := by rw [hV2]; exact heap_at rfl _
          have hV2s : V2.heap.size = V.heap.size + 1 := by rw [hV2]; simp
          have hins2 := (hbV2.block _ hrV).trans hins
          have HB2 : Hid (Below w.heap.size w V2) := HBV.out.trans (hbV2.mono (by omega))
          have HT2 : Hid (Tab V2) := (HEV.out.below hbV2).tab
          rw [← hV2]
          clear hV2 hins hbV2 q0 q1 q2 q3 qz f0 f1 f2 f3 HMV HSV cw hlk2
          obtain ⟨q0, q1, q2, q3, qz⟩ := four_cells hins2
          obtain ⟨p0, p1, _⟩ := two_cells hspt
          have HSD : Hid (V2.drew.cell? ⟨V.heap.size, 1, none⟩ = some (i64 s2) ∧ V2.drew.cell? ⟨wr.heap.size, 3, none⟩ = some (i64 0)) := ⟨p1, q3⟩
          go_wp2_with fail
          go_region_held3 (fun w' => w'.cell? ⟨V.heap.size, 1, none⟩ = some (i64 s2)) (first | exact HSD.out.1 | (rw [World.cell?_setCell_other _ _ _ _ (by simp <;> omega)]; exact HSD.out.1)) ((first | (go_at_call 40; refine (HZ.out _ (HT2.out.drewN 1)).mono ?_; rintro e w6 ⟨rfl, rfl⟩) | (go_at_call 50; refine (HDS.out _).mono ?_; rintro e w6 ⟨rfl, rfl⟩)))
          obtain ⟨W, hW⟩ : ∃ W, W = (V2.drewN 1).setCell ⟨wr.heap.size, 3, none⟩ (.int .i64 D) := ⟨_, rfl⟩
          have hbW : Below w.heap.size w W := by rw [hW]; exact (HB2.out.trans (c := V2.drewN 1) ⟨rfl, rfl, rfl, Nat.le_refl _, fun _ _ => rfl⟩).setCell (by show w.heap.size ≤ wr.heap.size; omega) _
          have hinW : W.heap[wr.heap.size]? = some (.cells #[i64 op, i64 r0, i64 r1, i64 D] 27 (0, 0)) := by
            rw [hW, heap_setCell_same _ _ _ _ _ _ (show (V2.drewN 1).heap[wr.heap.size]? = _ from hins2)]
            rfl
          have HTW : Hid (Tab W) := (HE.out.below hbW).tab
          have HBW : Hid (Below w.heap.size w W) := hbW
          have hWz := hbW.size
          rw [← hW]
          clear hW q0 q1 q2 q3 qz p0 p1 HSD hins2 hspt hbW
          obtain ⟨q0, q1, q2, q3, qz⟩ := four_cells hinW
          clear hinW
          go_wp2_with fail
          refine (HBY.out _ HTW.out).mono ?_
          rintro e w1 ⟨rfl, hb1⟩
          have HB1 : Hid (Below w.heap.size w w1) := HBW.out.trans (hb1.mono hWz)
          clear hb1
          go_wp2_with fail
          go_ret2
          exact ⟨by rw [HE2.out]; rfl, HB1.out⟩
        · obtain ⟨⟨s1, s2⟩, hsp⟩ : ∃ s, (lookL M y).getD (0, 0) = s := ⟨_, rfl⟩
          have hNW2 : numW M op a y = numF y := by
            rw [hNW]
            cases h : lookL M y with
            | none => rfl
            | some s =>
              have : ¬ L = true := fun hL => hA ⟨by rw [h]; rfl, hL⟩
              simp [this]
          rw [hNW2] at HNN3
          have HNUM4 : Hid (∀ n : Nat, numF y = some n → EF.getD [] = btS ⟨op, r0, r1, (n : Nat)⟩ ∧ EF.isSome = (btE ⟨op, r0, r1, (n : Nat)⟩ == 0)) := fun n h => HNUM3.out n (by rw [hNW2]; exact h)
          have hlk2 : (Instr.lookup 46 (.map (some b)) (str y) true).run Tryd.prog V = .ok (.tuple #[.agg #[i64 s1, i64 s2], .bool (lookL M y).isSome]) V := by
            rw [hlk]; unfold lookR; rw [hsp]; rfl
          have HNF : Hid (∀ w, Calls Tryd.prog 51 #[str y] w fun e w' => e = .returned (.tuple #[i64 ((numF y).getD 0 : Nat), .bool (numF y).isSome]) ∧ w' = w) := fun w => num_ok2 w y hyl
          have hA2 : (lookL M y).isSome = false ∨ ((lookL M y).isSome = true ∧ L = false) := by
            cases h : (lookL M y).isSome
            · exact Or.inl rfl
            · exact Or.inr ⟨rfl, by simpa using fun hL => hA ⟨h, hL⟩⟩
          clear hA hlk HLY hsp hNW hNW2 HNUM3
          generalize (lookL M y).isSome = T at *
          cases hn : numF y with
          | none =>
            have HE0 : Hid (EF = none) := HNN3.out hn
            have HNF2 : Hid (∀ w, Calls Tryd.prog 51 #[str y] w fun e w' => e = .returned (.tuple #[i64 0, .bool false]) ∧ w' = w) := fun w => by have := HNF.out w; rw [hn] at this; exact this
            clear hn HNN3 HNUM4 HNF
            rcases hA2 with rfl | ⟨rfl, rfl⟩
            all_goals
              go_wp2_with fail
              refine (HNF2.out _).mono ?_
              rintro e w1 ⟨rfl, rfl⟩
              go_wp2_with fail
              go_ret2
              exact ⟨by rw [HE0.out]; rfl, HBV.out.alloc (Nat.le_of_lt hwV) _⟩
          | some D =>
            obtain ⟨e1, e2⟩ := HNUM4.out D hn
            have HNF2 : Hid (∀ w, Calls Tryd.prog 51 #[str y] w fun e w' => e = .returned (.tuple #[i64 D, .bool true]) ∧ w' = w) := fun w => by have := HNF.out w; rw [hn] at this; exact this
            have HE1 : Hid (EF.getD [] = btS ⟨op, r0, r1, (D : Int)⟩) := e1
            have HE2 : Hid (EF.isSome = (btE ⟨op, r0, r1, (D : Int)⟩ == 0)) := e2
            have HBY : Hid (∀ w, Tab w → Calls Tryd.prog 35 #[.agg #[i64 op, i64 r0, i64 r1, i64 D]] w fun e w' => e = .returned (.tuple #[str (EF.getD []), i64 (btE ⟨op, r0, r1, (D : Int)⟩)]) ∧ Below w.heap.size w w') := fun w ht => by rw [HE1.out]; exact bytes_any w ht ⟨op, r0, r1, (D : Int)⟩
            clear e1 e2 hn HNN3 HNUM4 HNF
            generalize btE ⟨op, r0, r1, (D : Int)⟩ = be at *
            obtain ⟨W, hW⟩ : ∃ W, W = (V.setCell ⟨wr.heap.size, 3, none⟩ (.int .i64 D)).alloc (.cells #[i64 s1, i64 s2] 56) := ⟨_, rfl⟩
            have hbW : Below w.heap.size w W := by rw [hW]; exact (HBV.out.setCell (by show w.heap.size ≤ wr.heap.size; omega) _).alloc (by simp; omega) _
            have hinW : W.heap[wr.heap.size]? = some (.cells #[i64 op, i64 r0, i64 r1, i64 D] 27 (0, 0)) := by
              rw [hW, Below.heap_alloc _ _ _ (by simp <;> omega), heap_setCell_same _ _ _ _ _ _ hins]
              rfl
            have HTW : Hid (Tab W) := (HE.out.below hbW).tab
            have HBW : Hid (Below w.heap.size w W) := hbW
            have hWz := hbW.size
            have HWW : Hid (W = (V.setCell ⟨wr.heap.size, 3, none⟩ (.int .i64 D)).alloc (.cells #[i64 s1, i64 s2] 56)) := hW
            obtain ⟨j0, j1, j2, j3, jz⟩ := four_cells hinW
            have qA : ∀ o, (V.alloc o).cell? ⟨wr.heap.size, 3, none⟩ = some (i64 0) := fun o => ((below_one V o).cell (p := ⟨wr.heap.size, 3, none⟩) hrV).trans q3
            have qz3 := qz 3
            clear hW hbW hinW
            rcases hA2 with rfl | ⟨rfl, rfl⟩
            all_goals
              go_wp2_with fail
              refine (HNF2.out _).mono ?_
              rintro e w1 ⟨rfl, rfl⟩
              go_upto_region 23 with fail
              rw [← HWW.out]
              go_wp2_with fail
              refine (HBY.out _ HTW.out).mono ?_
              rintro e w1 ⟨rfl, hb1⟩
              have HB1 : Hid (Below w.heap.size w w1) := HBW.out.trans (hb1.mono hWz)
              clear hb1
              go_wp2_with fail
              go_ret2
              exact ⟨by rw [HE2.out]; rfl, HB1.out⟩
end Go.Proofs.YtobkehlkopkaeaaDoor
