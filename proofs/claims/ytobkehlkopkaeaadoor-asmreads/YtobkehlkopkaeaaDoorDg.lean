/- The document's at: where a label stands first; no statement is proved in this text. -/
import Derived.Test.YtobkehlkopkaeaaDoorDf
namespace Go.Proofs.YtobkehlkopkaeaaDoor
open Go.ChangeShapes Go.WideShapes Go.ChangeAt Go.RowKit
set_option maxRecDepth 100000

/-- Rows of words in memory, to be read. -/
def RwS (w : World) (g : Nat) (R : List (List Bs)) : Prop := g < w.heap.size ∧ ∀ i ws, R[i]? = some ws → ∃ wo wc, w.cell? ⟨g, i, none⟩ = some (.slice wo ws.length wc) ∧ WSl w wo ws
def Wok (R : List (List Bs)) : Prop := ∀ ws ∈ R, ws.length ≤ 1000000 ∧ ∀ x ∈ ws, x ≠ [] ∧ x.length ≤ 1000000
theorem RwS.under {w w' : World} {g : Nat} {R : List (List Bs)} (h : RwS w g R) (hb : Below w.heap.size w w') : RwS w' g R :=
  ⟨Nat.lt_of_lt_of_le h.1 hb.size, fun i ws hi => by
    obtain ⟨wo, wc, h1, h2⟩ := h.2 i ws hi
    exact ⟨wo, wc, (hb.cell (p := ⟨g, i, none⟩) h.1).trans h1, h2.below hb⟩⟩
theorem rwd_rws {w X : World} {ov : Value} {D : List (List Bs × Value)} (h : RwD w X ov D) (hne : D ≠ []) : ∃ g cap, ov = .slice (some ⟨g, 0, none⟩) (D.map (·.1)).length cap ∧ RwS X g (D.map (·.1)) ∧ (D.map (·.1)).length ≤ cap := by
  rcases h.own.2 with ⟨_, h0⟩ | ⟨g, cap, cu, hv, hb, hg, hc1, _⟩
  · exact absurd (List.eq_nil_of_length_eq_zero h0) hne
  · refine ⟨g, cap, by rw [hv]; simp, ⟨(Array.getElem?_eq_some_iff.1 hg).1, fun i ws hi => ?_⟩, by simpa using hc1⟩
    rw [List.getElem?_map] at hi
    cases hd : D[i]? with
    | none => rw [hd] at hi; cases hi
    | some d =>
      rw [hd] at hi
      cases hi
      have hil := (List.getElem?_eq_some_iff.1 hd).1
      have hown := h.own
      rw [hv] at hown
      have hcell : X.cell? ⟨g, i, none⟩ = some d.2 := by
        rw [hown.cellAt i (by omega), List.getElem?_map, hd]; rfl
      obtain ⟨wo, wc, e1, e2, _⟩ := own_words (h.done d (List.mem_of_getElem? hd)).1
      exact ⟨wo, wc, by rw [hcell, e1], e2⟩
theorem below_dn {B : Nat} {w X : World} (h : Below B w X) (n : Nat) : Below B w (X.drewN n) := ⟨h.os, h.tape, h.output, h.size, h.block⟩
def atF : List (List Bs) → Bs → Nat → Int
  | [], _, _ => -1
  | ws :: r, y, i => if nmD ws = y then (i : Int) else atF r y (i + 1)
def atD (R : List (List Bs)) (y : Bs) : Int := atF R y 0
theorem RwS.at {w : World} {g : Nat} {R : List (List Bs)} (h : RwS w g R) {i : Nat} (hi : i < R.length) : ∃ wo wc, w.cell? ⟨g, i, none⟩ = some (.slice wo R[i].length wc) ∧ WSl w wo R[i] := h.2 i R[i] (List.getElem?_eq_getElem hi)
set_option maxHeartbeats 3200000 in
theorem at_ok (R : List (List Bs)) (hW : Wok R) (g cap : Nat) (y : Bs) (w : World) (hs : RwS w g R) (hn : R.length ≤ 1000001) : Calls Tryd.prog 31 #[.slice (some ⟨g, 0, none⟩) R.length cap, str y] w fun e w' => e = .returned (i64 (atD R y)) ∧ Below w.heap.size w w' := by
  have HS := hid hs
  have HW := hid hW
  obtain ⟨RES, hRES⟩ : ∃ RES, RES = atD R y := ⟨_, rfl⟩
  have HR0 : Hid (RES = atF (R.drop 0) y 0) := hRES
  rw [← hRES]
  clear hRES hs hW
  go_enter Tryd.func31, Tryd.ntmps31
  go_wp2_with fail
  go_loopg [9] R.length (fun gh u wr => ∃ i : Nat, R.length - i ≤ gh ∧ i ≤ R.length ∧ u = i64 i ∧ Hid (RES = atF (R.drop i) y i) ∧ Hid (Below w.heap.size w wr))
  case atStart => exact ⟨0, by omega, by omega, rfl, HR0, Below.refl _ _⟩
  case round =>
    obtain ⟨i, hg, hi, rfl, HR, HB⟩ := hrel
    have hz := HB.out.size
    by_cases hil : i < R.length
    · obtain ⟨wo, wc, hc, hw⟩ := (HS.out.under HB.out).at hil
      have HL : Hid (RES = if nmD R[i] = y then (i : Int) else atF (R.drop (i + 1)) y (i + 1)) := by
        show _ = _
        rw [HR.out, List.drop_eq_getElem_cons hil]; rfl
      obtain ⟨hw1, hw2⟩ := HW.out R[i] (List.getElem_mem hil)
      have HN : Hid (∀ W, Below wr.heap.size wr W → Calls Tryd.prog 27 #[.slice wo R[i].length wc] W fun e w' => e = .returned (str (nmD R[i])) ∧ ∃ n, w' = W.drewN n) := fun W hb => named_ok R[i] wo wc W (hw.below hb) (fun x hx => (hw2 x hx).1) (fun x hx => (hw2 x hx).2) hw1
      have HB1 : Hid (Below wr.heap.size wr (wr.alloc (.cells #[.slice wo R[i].length wc] 65))) := below_one _ _
      clear hw hw2 HR
      generalize R[i] = ws at *
      generalize nmD ws = nmv at *
      go_wp2_with fail
      refine (HN.out _ HB1.out).mono ?_
      rintro e w2 ⟨rfl, nn, rfl⟩
      have HB2 : Hid (Below w.heap.size w ((wr.alloc (.cells #[.slice wo ws.length wc] 65)).drewN nn)) := below_dn (HB.out.trans (HB1.out.mono hz)) nn
      by_cases hq : nmv = y
      · have hqb : (nmv == y) = true := by rw [hq]; simp
        have HF : Hid (RES = i) := by show _ = _; rw [HL.out, if_pos hq]
        clear HL HN hq
        go_wp2_with fail
        go_ret
        exact ⟨by rw [HF.out]; rfl, HB2.out⟩
      · have hqb : (nmv == y) = false := beq_eq_false_iff_ne.2 hq
        have HR2 : Hid (RES = atF (R.drop (i + 1)) y (i + 1)) := by show _ = _; rw [HL.out, if_neg hq]
        clear HL HN hq
        go_wp2_with fail
        go_roundg (R.length - (i + 1))
        case measure => omega
        case rel => exact ⟨i + 1, by omega, by omega, by go_num, HR2, HB2⟩
    · have hlt : ¬ (i : Int) < (R.length : Int) := by omega
      have HF : Hid (RES = -1) := by
        show _ = _
        rw [HR.out, List.drop_eq_nil_of_le (by omega)]; rfl
      go_wp2_with fail
      go_ret
      exact ⟨by rw [HF.out]; rfl, HB.out⟩
end Go.Proofs.YtobkehlkopkaeaaDoor
