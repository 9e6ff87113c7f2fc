/- The document's wrong and place; no statement is proved in this text. -/
import Derived.Test.YtobkehlkopkaeaaDoorDg
namespace Go.Proofs.YtobkehlkopkaeaaDoor
open Go.ChangeShapes Go.WideShapes Go.ChangeAt Go.RowKit
set_option maxRecDepth 100000

def wrW (R : List (List Bs)) (ws : List Bs) (i : Nat) : Bool :=
  if ws = [] then false else if nmD ws ≠ [] then decide (atD R (nmD ws) < i) else (!(ofD ws).2.2 || (!(ofD ws).2.1.isEmpty && decide (atD R (ofD ws).2.1 < 0)))
theorem ofD_op (ws : List Bs) : 0 ≤ (ofD ws).1.op ∧ (ofD ws).1.op ≤ 20 := by
  unfold ofD
  have hz : 0 ≤ zeroD.1.op ∧ zeroD.1.op ≤ 20 := by decide
  split
  · exact hz
  · split
    · split
      · exact hz
      · split
        · rename_i h
          unfold isI at h
          simp at h
          exact ⟨h.1.1, h.1.2⟩
        · exact hz
    · exact hz
set_option maxHeartbeats 3200000 in
theorem wrong_ok (R : List (List Bs)) (hW : Wok R) (g cap i : Nat) (w : World) (hs : RwS w g R) (hn : R.length ≤ 1000001) (hi : i < R.length) : Calls Tryd.prog 26 #[.slice (some ⟨g, 0, none⟩) R.length cap, i64 i] w fun e w' => e = .returned (.bool (wrW R R[i] i)) ∧ Below w.heap.size w w' := by
  have HAT : Hid (∀ y W, Below w.heap.size w W → Calls Tryd.prog 31 #[.slice (some ⟨g, 0, none⟩) R.length cap, str y] W fun e w' => e = .returned (i64 (atD R y)) ∧ Below W.heap.size W w') := fun y W hb => at_ok R hW g cap y W (hs.under hb) hn
  obtain ⟨wo, wc, hc, hw⟩ := hs.at hi
  obtain ⟨hw1, hw2⟩ := hW R[i] (List.getElem_mem hi)
  have HN : Hid (∀ W, Below w.heap.size w W → Calls Tryd.prog 27 #[.slice wo R[i].length wc] W fun e w' => e = .returned (str (nmD R[i])) ∧ ∃ n, w' = W.drewN n) := fun W hb => named_ok R[i] wo wc W (hw.below hb) (fun x hx => (hw2 x hx).1) (fun x hx => (hw2 x hx).2) hw1
  have HOF : Hid (∀ W, Below w.heap.size w W → R[i] ≠ [] → Calls Tryd.prog 28 #[.slice wo R[i].length wc] W fun e w' => e = .returned (.agg #[i64 (ofD R[i]).1.op, i64 (ofD R[i]).1.a, i64 (ofD R[i]).1.b, i64 (ofD R[i]).1.n, str (ofD R[i]).2.1, .bool (ofD R[i]).2.2]) ∧ Below W.heap.size W w') := fun W hb hne => by
    cases hq : R[i] with
    | nil => exact absurd hq hne
    | cons x0 t =>
      rw [hq] at hw1 hw2
      have hwq : WSl W wo (x0 :: t) := by rw [← hq]; exact hw.below hb
      exact of_ok x0 t wo wc W hwq (fun x hx => (hw2 x hx).2) (by simp at hw1; omega)
  obtain ⟨RES, hRES⟩ : ∃ RES, RES = wrW R R[i] i := ⟨_, rfl⟩
  have HR := hid hRES
  rw [← hRES]
  clear hRES hs hW hw hw2
  generalize R[i] = ws at *
  by_cases hws : ws = []
  · subst hws
    have HF : Hid (RES = false) := by show _ = _; rw [HR.out]; rfl
    clear HR HN HOF
    go_enter Tryd.func26, Tryd.ntmps26
    go_wp2_with fail
    go_ret
    exact ⟨by rw [HF.out]; rfl, Below.refl _ _⟩
  · have hl0 : 0 < ws.length := List.length_pos_iff.2 hws
    have hl1 : ((ws.length : Int) == 0) = false := by
      have : (ws.length : Int) ≠ 0 := by omega
      simpa using this
    have HWS : Hid (ws ≠ []) := hws
    obtain ⟨nmv, hnm⟩ : ∃ nmv, nmv = nmD ws := ⟨_, rfl⟩
    rw [← hnm] at HN
    by_cases hne : nmv = []
    · have HR2 : Hid (RES = (!(ofD ws).2.2 || (!(ofD ws).2.1.isEmpty && decide (atD R (ofD ws).2.1 < 0)))) := by
        show _ = _
        rw [HR.out]; unfold wrW; rw [if_neg hws, if_neg (by rw [← hnm, hne]; simp)]
      clear HR hnm hws
      subst hne
      obtain ⟨⟨⟨o, a, b, n⟩, lab, ok⟩, hof⟩ : ∃ r, r = ofD ws := ⟨_, rfl⟩
      rw [← hof] at HOF HR2
      clear hof
      go_enter Tryd.func26, Tryd.ntmps26
      go_wp2_with fail
      refine (HN.out _ (Below.refl _ _)).mono ?_
      rintro e w2 ⟨rfl, nn, rfl⟩
      go_wp2_with fail
      have HB1 : Hid (Below w.heap.size w (w.drewN nn)) := below_dn (Below.refl _ _) nn
      refine (HOF.out _ HB1.out HWS.out).mono ?_
      rintro e w3 ⟨rfl, hb3⟩
      have HB3 : Hid (Below w.heap.size w w3) := HB1.out.trans (hb3.mono HB1.out.size)
      have HB4 : Hid (Below w.heap.size w (w3.alloc (.cells #[i64 o, i64 a, i64 b, i64 n, str lab, .bool ok] 68))) := HB3.out.alloc HB3.out.size _
      clear hb3 HN HOF
      cases ok with
      | false =>
        have HF : Hid (RES = true) := by show _ = _; rw [HR2.out]; rfl
        go_wp2_with fail
        go_ret
        exact ⟨by rw [HF.out]; rfl, HB4.out⟩
      | true =>
        by_cases hlab : lab = []
        · subst hlab
          have HF : Hid (RES = false) := by show _ = _; rw [HR2.out]; rfl
          go_wp2_with fail
          go_ret
          exact ⟨by rw [HF.out]; rfl, HB4.out⟩
        · have hle : lab.isEmpty = false := by simp [hlab]
          have HF : Hid (RES = decide (atD R lab < 0)) := by show _ = _; rw [HR2.out]; simp [hle]
          clear HR2 hlab
          go_wp2_with fail
          refine (HAT.out lab _ HB4.out).mono ?_
          rintro e w5 ⟨rfl, hb5⟩
          have HB5 : Hid (Below w.heap.size w w5) := HB4.out.trans (hb5.mono HB4.out.size)
          clear hb5
          generalize atD R lab = A at *
          go_wp2_with fail
          go_ret
          exact ⟨by rw [HF.out]; rfl, HB5.out⟩
    · have hle : nmv.isEmpty = false := by simp [hne]
      have HF : Hid (RES = decide (atD R nmv < i)) := by
        show _ = _
        rw [HR.out]; unfold wrW; rw [if_neg hws, if_pos (by rw [← hnm]; exact hne), hnm]
      clear HR hnm hws hne HOF
      go_enter Tryd.func26, Tryd.ntmps26
      go_wp2_with fail
      refine (HN.out _ (Below.refl _ _)).mono ?_
      rintro e w2 ⟨rfl, nn, rfl⟩
      have HB1 : Hid (Below w.heap.size w (w.drewN nn)) := below_dn (Below.refl _ _) nn
      go_wp2_with fail
      refine (HN.out _ HB1.out).mono ?_
      rintro e w2 ⟨rfl, n2, rfl⟩
      have HB2 : Hid (Below w.heap.size w (w.drewN (nn + n2))) := below_dn (Below.refl _ _) _
      go_wp2_with fail
      refine (HAT.out nmv _ HB2.out).mono ?_
      rintro e w5 ⟨rfl, hb5⟩
      have HB5 : Hid (Below w.heap.size w w5) := HB2.out.trans (hb5.mono HB2.out.size)
      clear hb5
      generalize atD R nmv = A at *
      go_wp2_with fail
      go_ret
      exact ⟨by rw [HF.out]; rfl, HB5.out⟩
end Go.Proofs.YtobkehlkopkaeaaDoor
