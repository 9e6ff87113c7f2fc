/- The document's place; no statement is proved in this text. -/
import Derived.Test.YtobkehlkopkaeaaDoorDh
namespace Go.Proofs.YtobkehlkopkaeaaDoor
open Go.ChangeShapes Go.WideShapes Go.ChangeAt Go.RowKit
set_option maxRecDepth 100000

theorem fld68 (x0 x1 x2 x3 x4 x5 : Value) (W : World) : (Instr.field 68 (.agg #[x0, x1, x2, x3, x4, x5]) 0).run Tryd.prog W = .ok (.agg #[x0, x1, x2, x3]) W := by kernel_rfl
theorem fld37 (x0 x1 x2 x3 : Value) (W : World) : (Instr.field 37 (.agg #[x0, x1, x2, x3]) 0).run Tryd.prog W = .ok x0 W := by kernel_rfl
def pzW (ws : List Bs) : Int := if ws ≠ [] ∧ nmD ws = [] then szI (ofD ws).1.op else 0
def plS : List (List Bs) → Int
  | [] => 0
  | ws :: r => pzW ws + plS r
theorem plS_app (l r : List (List Bs)) : plS (l ++ r) = plS l + plS r := by
  induction l with
  | nil => simp [plS]
  | cons ws l ih => simp only [List.cons_append, plS, ih]; omega
theorem szI_le (op : Int) : 0 ≤ szI op ∧ szI op ≤ 4 := by unfold szI; have := sz_le op.toNat; split <;> omega
theorem pzW_le (ws : List Bs) : 0 ≤ pzW ws ∧ pzW ws ≤ 4 := by
  unfold pzW
  split
  · exact szI_le _
  · omega
theorem plS_le : ∀ l, 0 ≤ plS l ∧ plS l ≤ 4 * l.length
  | [] => by simp [plS]
  | ws :: r => by
    have h1 := plS_le r
    have h2 := pzW_le ws
    simp only [plS, List.length_cons]
    omega
theorem plS_snoc (R : List (List Bs)) {i : Nat} (hi : i < R.length) : plS (R.take (i + 1)) = plS (R.take i) + pzW R[i] := by
  rw [← List.take_append_getElem hi, plS_app]; simp [plS]
set_option maxHeartbeats 3200000 in
theorem place_ok (R : List (List Bs)) (hW : Wok R) (g cap N : Nat) (w : World) (hs : RwS w g R) (hn : R.length ≤ 1000001) (hN : N ≤ R.length) (hcap : R.length ≤ cap) : Calls Tryd.prog 30 #[.slice (some ⟨g, 0, none⟩) R.length cap, i64 N] w fun e w' => e = .returned (i64 (plS (R.take N))) ∧ Below w.heap.size w w' := by
  have HS := hid hs
  have HW := hid hW
  have HZ : Hid (∀ (op : Int) W, Calls Tryd.prog 56 #[i64 op] W fun e w' => e = .returned (i64 (szI op)) ∧ w' = W) := fun op W => rsize_ok W op
  clear hs hW
  have hNc : (N : Int) ≤ (cap : Int) := by omega
  have hN0 : (0 : Int) ≤ (N : Int) := by omega
  go_enter Tryd.func30, Tryd.ntmps30
  go_wp2_with fail
  go_loopg [5, 12] N (fun gh v u wr => ∃ i : Nat, N - i ≤ gh ∧ i ≤ N ∧ u = i64 i ∧ v = i64 (plS (R.take i)) ∧ Hid (Below w.heap.size w wr))
  case atStart => exact ⟨0, by omega, by omega, rfl, rfl, Below.refl _ _⟩
  case round =>
    obtain ⟨i, hg, hi, rfl, rfl, HB⟩ := hrel
    have hz := HB.out.size
    by_cases hil : i < N
    · have hiR : i < R.length := by omega
      obtain ⟨wo, wc, hc, hw⟩ := (HS.out.under HB.out).at hiR
      obtain ⟨hw1, hw2⟩ := HW.out R[i] (List.getElem_mem hiR)
      have HN : Hid (∀ W, Below wr.heap.size wr W → Calls Tryd.prog 27 #[.slice wo R[i].length wc] W fun e w' => e = .returned (str (nmD R[i])) ∧ ∃ n, w' = W.drewN n) := fun W hb => named_ok R[i] wo wc W (hw.below hb) (fun x hx => (hw2 x hx).1) (fun x hx => (hw2 x hx).2) hw1
      have HOF : Hid (∀ W, Below wr.heap.size wr W → R[i] ≠ [] → Calls Tryd.prog 28 #[.slice wo R[i].length wc] W fun e w' => e = .returned (.agg #[i64 (ofD R[i]).1.op, i64 (ofD R[i]).1.a, i64 (ofD R[i]).1.b, i64 (ofD R[i]).1.n, str (ofD R[i]).2.1, .bool (ofD R[i]).2.2]) ∧ Below W.heap.size W w') := fun W hb hne => by
        cases hq : R[i] with
        | nil => exact absurd hq hne
        | cons x0 t =>
          rw [hq] at hw1 hw2
          have hwq : WSl W wo (x0 :: t) := by rw [← hq]; exact hw.below hb
          exact of_ok x0 t wo wc W hwq (fun x hx => (hw2 x hx).2) (by simp at hw1; omega)
      have HP := hid (plS_snoc R hiR)
      have hpl := plS_le (R.take i)
      have hpl2 : (R.take i).length ≤ 1000001 := by rw [List.length_take]; omega
      have hpz := pzW_le R[i]
      have HPZ : Hid (pzW R[i] = if R[i] ≠ [] ∧ nmD R[i] = [] then szI (ofD R[i]).1.op else 0) := (rfl : pzW R[i] = _)
      have HB1 : Hid (Below wr.heap.size wr (wr.alloc (.cells #[.slice wo R[i].length wc] 65))) := below_one _ _
      clear hw hw2
      generalize plS (R.take i) = P at *
      obtain ⟨P2, hP2⟩ : ∃ P2, plS (R.take (i + 1)) = P2 := ⟨_, rfl⟩
      have HPE := hid hP2
      rw [hP2] at HP
      clear hP2
      generalize R[i] = ws at *
      generalize pzW ws = Z at *
      by_cases hws : ws = []
      · subst hws
        have HF : Hid (P2 = P) := by show _ = _; rw [HP.out, HPZ.out]; simp
        clear HP HPZ HN HOF
        go_wp2_with fail
        go_roundg (N - (i + 1))
        case measure => omega
        case rel => exact ⟨i + 1, by omega, by omega, by go_num, by rw [HPE.out, HF.out], HB.out.trans (HB1.out.mono hz)⟩
      · have hl0 : 0 < ws.length := List.length_pos_iff.2 hws
        have HWS : Hid (ws ≠ []) := hws
        obtain ⟨nmv, hnm⟩ : ∃ nmv, nmv = nmD ws := ⟨_, rfl⟩
        rw [← hnm] at HN HPZ
        by_cases hne : nmv = []
        · subst hne
          have HP2 : Hid (P2 = P + szI (ofD ws).1.op) := by show _ = _; rw [HP.out, HPZ.out, if_pos ⟨hws, rfl⟩]
          have hsz := szI_le (ofD ws).1.op
          clear HP HPZ hnm hws
          obtain ⟨⟨⟨o, a, b, n⟩, lab, ok⟩, hof⟩ : ∃ r, r = ofD ws := ⟨_, rfl⟩
          rw [← hof] at HOF HP2 hsz
          have HZO : Hid (∀ W, Calls Tryd.prog 56 #[i64 o] W fun e w' => e = .returned (i64 (szI o)) ∧ w' = W) := fun W => HZ.out o W
          have HP3 : Hid (P2 = P + szI o) := HP2.out
          have hsz2 : 0 ≤ szI o ∧ szI o ≤ 4 := hsz
          clear hof HP2 hsz
          generalize szI o = Y at *
          go_wp2_with fail
          refine (HN.out _ HB1.out).mono ?_
          rintro e w2 ⟨rfl, nn, rfl⟩
          have HB2 : Hid (Below wr.heap.size wr ((wr.alloc (.cells #[.slice wo ws.length wc] 65)).drewN nn)) := below_dn HB1.out nn
          go_wp2_with fail
          refine (HOF.out _ HB2.out HWS.out).mono ?_
          rintro e w3 ⟨rfl, hb3⟩
          have HB3 : Hid (Below wr.heap.size wr w3) := HB2.out.trans (hb3.mono HB2.out.size)
          clear hb3
          have hf1 := fld68 (i64 o) (i64 a) (i64 b) (i64 n) (str lab) (.bool ok)
          have hf2 := fld37 (i64 o) (i64 a) (i64 b) (i64 n)
          have hp1 : -9000000 ≤ P ∧ P ≤ 9000000 := by omega
          go_wp2_with (go_at_call 56; refine (HZO.out _).mono ?_; rintro e w4 ⟨rfl, rfl⟩)
          go_roundg (N - (i + 1))
          case measure => omega
          case rel => exact ⟨i + 1, by omega, by omega, by go_num, by rw [HPE.out, HP3.out], HB.out.trans (HB3.out.mono hz)⟩
        · have hle : nmv.isEmpty = false := by simp [hne]
          have HF : Hid (P2 = P) := by show _ = _; rw [HP.out, HPZ.out, if_neg (fun h => hne h.2)]; omega
          clear HP HPZ hnm hws hne HOF
          go_wp2_with fail
          refine (HN.out _ HB1.out).mono ?_
          rintro e w2 ⟨rfl, nn, rfl⟩
          have HB2 : Hid (Below wr.heap.size wr ((wr.alloc (.cells #[.slice wo ws.length wc] 65)).drewN nn)) := below_dn HB1.out nn
          go_wp2_with fail
          go_roundg (N - (i + 1))
          case measure => omega
          case rel => exact ⟨i + 1, by omega, by omega, by go_num, by rw [HPE.out, HF.out], HB.out.trans (HB2.out.mono hz)⟩
    · obtain rfl : i = N := by omega
      have hlt : ¬ (i : Int) < (i : Int) := by omega
      go_wp2_with fail
      go_ret
      exact ⟨rfl, HB.out⟩
end Go.Proofs.YtobkehlkopkaeaaDoor
