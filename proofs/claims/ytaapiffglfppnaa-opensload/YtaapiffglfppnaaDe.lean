/- The document's Dup, Close, Drop, Dup2, Add; no statement is proved in this text. -/
import Derived.Test.YtaapiffglfppnaaDd
namespace Go.Proofs.Ytaapiffglfppnaa
open Go.ChangeShapes Go.WideShapes Go.ChangeAt Go.RowKit Go.Deep
attribute [local go_sem ↓] Go.wp_at_zero Go.wp_at_succ

/-- A slot's place in a list. -/
def Spl (S : List Sl3) (x : Sl3) (A B : List Sl3) : Prop := S = A ++ B ∧ (∀ e ∈ A, lt2 (pk e) (pk x)) ∧ ∀ e ∈ B, lt2 (pk x) (pk e)
theorem rins_at {w : World} {base r : Nat} {O : List Op4} {S A B : List Sl3} {x : Sl3} (h : Rt w base r O S) (hl : S.length ≤ 900) (hs : Spl S x A B) : Calls Try.prog 57 #[pq r, lv x] w fun e w' => e = .returned (.tuple #[]) ∧ Rt w' base r O (A ++ x :: B) ∧ Touch r w w' := by
  obtain ⟨rfl, hA, hB⟩ := hs
  exact rins_ok h hl x hA hB
/-- What a slot's row holds where it stands. -/
theorem slot_at {w : World} {base r : Nat} {O : List Op4} {S : List Sl3} {K : Nat} {s : Sl3} (h : Rt w base r O S) (hK : S[K]? = some s) : ∃ g cap, w.cell? ⟨r, 1, none⟩ = some (.slice (some ⟨g, 0, none⟩) S.length cap) ∧ S.length ≤ cap ∧ w.cell? ⟨g, K * 3 + 2, none⟩ = some (i64 s.2.2) := by
  obtain ⟨hlo, a1, cc1, ao, cap, hbk, _, hown⟩ := h
  have hi : K < S.length := (List.getElem?_eq_some_iff.1 hK).1
  obtain ⟨g, rfl, hbg, cur, hgg, hc⟩ := own_zeroK hown (by omega)
  refine ⟨g, cap, blk_cell hbk 1, hc, ?_⟩
  rw [hown.cellAt _ (by omega), (lcn_get S K s hK).2.2]
set_option maxRecDepth 100000 in
set_option maxHeartbeats 1600000 in
theorem rdup_none {w : World} {base r : Nat} {O : List Op4} {S : List Sl3} (p q : Int) (h : Rt w base r O S) (hl : S.length ≤ 900) (hs : S.find? (kp p q) = none) : Calls Try.prog 32 #[pq r, i64 p, i64 q] w fun e w' => e = .returned (.tuple #[i64 0, i64 6]) ∧ Below w.heap.size w w' := by
  have HC := hid (rat_none p q h (by omega) hs)
  clear h hl hs
  go_enter Try.func32, Try.ntmps32
  go_wp2_with fail
  refine HC.out.mono ?_
  rintro e w2 ⟨rfl, hb⟩
  have HB := hid hb
  clear hb HC
  go_wp2_with fail
  go_ret2
  exact ⟨rfl, HB.out⟩
set_option maxRecDepth 100000 in
set_option maxHeartbeats 1600000 in
theorem rdup_full {w : World} {base r : Nat} {O : List Op4} {S : List Sl3} (p q : Int) (s : Sl3) (h : Rt w base r O S) (hl : S.length ≤ 900) (hs : S.find? (kp p q) = some s) (hf : FreeS S p 6) : Calls Try.prog 32 #[pq r, i64 p, i64 q] w fun e w' => e = .returned (.tuple #[i64 0, i64 5]) ∧ Below w.heap.size w w' := by
  obtain ⟨K, h1, h2, h3⟩ := find_at hs
  have HC := hid (rat_some p q K s h (by omega) h1 h2 h3)
  have HR := hid h
  have HF := hid fun W (hW : Rt W base r O S) => rfree_ok p 6 hW (by omega) hf
  have hK0 : (0 : Int) ≤ K := by omega
  clear h hl hs hf h1 h2 h3
  go_enter Try.func32, Try.ntmps32
  go_wp2_with fail
  refine HC.out.mono ?_
  rintro e w2 ⟨rfl, hb⟩
  have HB := hid hb
  have HC2 := hid (HF.out w2 (HR.out.below hb))
  clear hb HC HF
  go_wp2_with fail
  refine HC2.out.mono ?_
  rintro e w3 ⟨rfl, hb⟩
  have HB3 : Hid (Below w.heap.size w w3) := HB.out.trans (hb.mono HB.out.size)
  clear hb HC2
  go_wp2_with fail
  go_ret2
  exact ⟨rfl, HB3.out⟩
set_option maxRecDepth 100000 in
set_option maxHeartbeats 1600000 in
theorem rdup_yes {w : World} {base r : Nat} {O : List Op4} {S A B : List Sl3} (p q : Int) (s : Sl3) (f : Nat) (h : Rt w base r O S) (hl : S.length ≤ 900) (hs : S.find? (kp p q) = some s) (hf : FreeS S p f) (h6 : f < 6) (hsp : Spl S (p, (f : Int), s.2.2) A B) : Calls Try.prog 32 #[pq r, i64 p, i64 q] w fun e w' => e = .returned (.tuple #[i64 f, i64 0]) ∧ Rt w' base r O (A ++ (p, (f : Int), s.2.2) :: B) ∧ Touch r w w' := by
  obtain ⟨K, h1, h2, h3⟩ := find_at hs
  have HC := hid (rat_some p q K s h (by omega) h1 h2 h3)
  have HR := hid h
  have HF := hid fun W (hW : Rt W base r O S) => rfree_ok p f hW (by omega) hf
  have HI := hid fun W (hW : Rt W base r O S) => rins_at hW hl hsp
  have HK := hid h1
  have hKN : K < S.length := (List.getElem?_eq_some_iff.1 h1).1
  have hK0 : (0 : Int) ≤ K := by omega
  obtain ⟨N, hN⟩ : ∃ N, N = S.length := ⟨_, rfl⟩
  have HN := hid hN
  rw [← hN] at hl hKN
  have hrl := h.lt
  clear h hs hf h1 h2 h3 hN hsp
  go_enter Try.func32, Try.ntmps32
  go_wp2_with fail
  refine HC.out.mono ?_
  rintro e w2 ⟨rfl, hb⟩
  have HB := hid hb
  have HR2 := hid (HR.out.below hb)
  have HC2 := hid (HF.out w2 HR2.out)
  clear hb HC HF
  go_wp2_with fail
  refine HC2.out.mono ?_
  rintro e w3 ⟨rfl, hb⟩
  have HB3 : Hid (Below w.heap.size w w3) := HB.out.trans (hb.mono HB.out.size)
  have HR3 := hid (HR2.out.below hb)
  obtain ⟨g, cap, d0, hcap, c2⟩ := slot_at HR3.out HK.out
  rw [← HN.out] at d0 hcap
  have HC3 := hid (HI.out w3 HR3.out)
  have hf5 : ¬ (5 : Int) < (f : Int) := by omega
  have hKNI : (K : Int) < N := by omega
  clear hb HC2 HI
  go_wp2_with fail
  refine HC3.out.mono ?_
  rintro e w4 ⟨rfl, hRt, hT⟩
  have HF4 := hid hRt
  have HT4 : Hid (Touch r w w4) := (Touch.of_below HB3.out).trans hT
  clear hRt hT HC3 d0 c2
  go_wp2_with fail
  go_ret2
  exact ⟨rfl, HF4.out, HT4.out⟩
set_option maxRecDepth 100000 in
set_option maxHeartbeats 1600000 in
theorem rclose_none {w : World} {base r : Nat} {O : List Op4} {S : List Sl3} (p q : Int) (h : Rt w base r O S) (hl : S.length ≤ 900) (hs : S.find? (kp p q) = none) : Calls Try.prog 33 #[pq r, i64 p, i64 q] w fun e w' => e = .returned (i64 6) ∧ Below w.heap.size w w' := by
  have HC := hid (rat_none p q h (by omega) hs)
  clear h hl hs
  go_enter Try.func33, Try.ntmps33
  go_wp2_with fail
  refine HC.out.mono ?_
  rintro e w2 ⟨rfl, hb⟩
  have HB := hid hb
  clear hb HC
  go_wp2_with fail
  go_ret
  exact ⟨rfl, HB.out⟩
/-- Slots that a call made are put in. -/
theorem Rt.putS {w w2 : World} {base r : Nat} {O : List Op4} {S M : List Sl3} {e : Ending} (h : Rt w base r O S) (hg : GotS w w2 e M) (hb : Below w.heap.size w w2) : ∃ ao cap, e = .returned (.slice ao M.length cap) ∧ Rt (w2.setCell ⟨r, 1, none⟩ (.slice ao M.length cap)) base r O M ∧ (∃ v, w2.cell? ⟨r, 1, none⟩ = some v) ∧ w2.frozen? ⟨r, 1, none⟩ = false ∧ M.length ≤ cap := by
  have hlb := h.lob
  have hrl := h.lt
  obtain ⟨h0, a1, c1, a2, c2, hbk, hO, hS⟩ := h
  obtain ⟨ao, cap, rfl, hown⟩ := hg
  have hbk2 := blk_below hbk hb
  exact ⟨ao, cap, rfl, Rt.setS (B := w.heap.size) h0 hbk2 (own_keep1 hO fun k hk => hb.block k (hO.lt k hk).2) rfl hown hlb hrl, ⟨_, blk_cell hbk2 1⟩, blk_frozen hbk2 1, own_capK hown⟩
theorem lfL_le (S : List Sl3) (p q : Int) : (lfL S p q).length ≤ S.length := List.length_filter_le _ _
set_option maxRecDepth 100000 in
set_option maxHeartbeats 1600000 in
theorem rclose_yes {w : World} {base r : Nat} {O : List Op4} {S : List Sl3} (p q : Int) (s : Sl3) (h : Rt w base r O S) (hlO : O.length ≤ 900) (hl : S.length ≤ 900) (hs : S.find? (kp p q) = some s) : Calls Try.prog 33 #[pq r, i64 p, i64 q] w fun e w' => e = .returned (i64 0) ∧ Rt w' base r (swO O (lfL S p q)) (lfL S p q) ∧ Touch r w w' := by
  obtain ⟨K, h1, h2, h3⟩ := find_at hs
  have HC := hid (rat_some p q K s h (by omega) h1 h2 h3)
  have HR := hid h
  have HL := hid fun W (hW : Rt W base r O S) => rleft_ok p q hW (by omega)
  have HW := hid fun W (hW : Rt W base r O (lfL S p q)) => rsweep_ok hW hlO (by have := lfL_le S p q; omega)
  have hK0 : (0 : Int) ≤ K := by omega
  have hrl := h.lt
  clear h hs h1 h2 h3 hl hlO
  go_enter Try.func33, Try.ntmps33
  go_wp2_with fail
  refine HC.out.mono ?_
  rintro e w2 ⟨rfl, hb⟩
  have HB := hid hb
  have HR2 := hid (HR.out.below hb)
  have HC2 := hid (HL.out w2 HR2.out)
  clear hb HC HL
  go_wp2_with fail
  refine HC2.out.mono ?_
  rintro e w3 ⟨hg, hb⟩
  obtain ⟨ao, cap, rfl, hR3, ⟨v, y0⟩, yf, _⟩ := HR2.out.putS hg hb
  have HB3 : Hid (Below w.heap.size w w3) := HB.out.trans (hb.mono HB.out.size)
  have HT3 : Hid (Touch r w (w3.setCell ⟨r, 1, none⟩ (.slice ao (lfL S p q).length cap))) := Touch.setCell (q := r) (p := ⟨r, 1, none⟩) (Touch.of_below HB3.out) rfl _
  have HC3 := hid (HW.out _ hR3)
  clear hb hg hR3 HC2 HW
  go_wp2_with fail
  refine HC3.out.mono ?_
  rintro e w4 ⟨rfl, hRt, hT⟩
  have HF4 := hid hRt
  have HT4 : Hid (Touch r w w4) := HT3.out.trans hT
  clear hRt hT HC3 y0 yf
  go_wp2_with fail
  go_ret
  exact ⟨rfl, HF4.out, HT4.out⟩
end Go.Proofs.Ytaapiffglfppnaa
