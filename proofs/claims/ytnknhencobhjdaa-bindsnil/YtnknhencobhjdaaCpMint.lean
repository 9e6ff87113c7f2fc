/- caps.Look whole, Mint: contracts; no statement is proved in this text. -/
import Derived.Test.YtnknhencobhjdaaCpPut
namespace Go.Proofs.Ytnknhencobhjdaa.Cp
open Go.ChangeShapes Go.WideShapes Go.ChangeAt Go.RowKit Go.Deep
attribute [local go_sem ↓] Go.wp_at_zero Go.wp_at_succ

def lookF (T : List Pl) (env sl gn : Int) : Option Cp :=
  if 0 ≤ sl then
    match T[sl.toNat]? with
    | some p => if p.c = zC ∨ p.gen ≠ gn ∨ p.c.env ≠ env then none else some p.c
    | none => none
  else none
def rC : Option Cp → Cp
  | some c => c
  | none => zC
def rE : Option Cp → Int
  | some _ => 0
  | none => 90
theorem lookF_some {T : List Pl} {env sl gn : Int} {c : Cp} (h : lookF T env sl gn = some c) : ∃ (s : Nat) (p : Pl), sl = s ∧ T[s]? = some p ∧ p.c ≠ zC ∧ p.gen = gn ∧ p.c.env = env ∧ p.c = c := by
  unfold lookF at h
  by_cases h0 : 0 ≤ sl
  · rw [if_pos h0] at h
    cases hp : T[sl.toNat]? with
    | none => rw [hp] at h; cases h
    | some p =>
      rw [hp] at h
      simp only at h
      by_cases hc : p.c = zC ∨ p.gen ≠ gn ∨ p.c.env ≠ env
      · rw [if_pos hc] at h; cases h
      · rw [if_neg hc] at h
        simp only [Option.some.injEq] at h
        have h1 : ¬ p.c = zC := fun e => hc (Or.inl e)
        have h2 : p.gen = gn := Classical.byContradiction fun e => hc (Or.inr (Or.inl e))
        have h3 : p.c.env = env := Classical.byContradiction fun e => hc (Or.inr (Or.inr e))
        exact ⟨sl.toNat, p, by omega, hp, h1, h2, h3, h⟩
  · rw [if_neg h0] at h; cases h
theorem lookF_at {T : List Pl} {env gn : Int} {s : Nat} {p : Pl} (hp : T[s]? = some p) (h1 : p.c ≠ zC) (h2 : p.gen = gn) (h3 : p.c.env = env) : lookF T env s gn = some p.c := by
  unfold lookF
  rw [if_pos (by omega), Int.toNat_natCast, hp]
  simp [h1, h2, h3]
theorem look_any {w : World} {base b : Nat} {T : List Pl} (h : Tb w base b T) (env sl gn : Int) : Calls Try.prog 50 #[.pointer (some ⟨b, 0, none⟩), i64 env, .agg #[i64 sl, i64 gn]] w fun e w' => e = .returned (.tuple #[(rC (lookF T env sl gn)).v, i64 (rE (lookF T env sl gn))]) ∧ Below w.heap.size w w' := by
  have hl := h.len
  by_cases h0 : sl < 0 ∨ 128 ≤ sl
  · have e : lookF T env sl gn = none := by
      unfold lookF
      by_cases h1 : 0 ≤ sl
      · rw [if_pos h1, List.getElem?_eq_none (by omega)]
      · rw [if_neg h1]
    rw [e]
    exact look_out w b env sl gn h0
  · obtain ⟨s, rfl⟩ : ∃ s : Nat, sl = s := ⟨sl.toNat, by omega⟩
    obtain ⟨p, hp⟩ : ∃ p, T[s]? = some p := ⟨_, List.getElem?_eq_getElem (by omega)⟩
    unfold lookF
    rw [if_pos (by omega), Int.toNat_natCast, hp]
    simp only
    by_cases h1 : p.c = zC
    · rw [if_pos (Or.inl h1)]; exact look_free h env gn s p hp h1
    · by_cases h2 : p.gen = gn
      · by_cases h3 : p.c.env = env
        · rw [if_neg (by simp [h1, h2, h3])]; exact look_ok h env gn s p hp h1 h2 h3
        · rw [if_pos (Or.inr (Or.inr h3))]; exact look_env h env gn s p hp h1 h2 h3
      · rw [if_pos (Or.inr (Or.inl h2))]; exact look_gen h env gn s p hp h1 h2
theorem two_boxes (w : World) (c : Cp) : Below w.heap.size w ((w.alloc (cO c)).alloc (hO 0 0)) ∧ ((w.alloc (cO c)).alloc (hO 0 0)).heap[w.heap.size]? = some (cO c) ∧ ((w.alloc (cO c)).alloc (hO 0 0)).heap[w.heap.size + 1]? = some (hO 0 0) := by
  refine ⟨(below_one w _).trans ((below_one _ _).mono (by simp)), blk_alloc (heap_last w _) _, ?_⟩
  have := heap_last (w.alloc (cO c)) (hO 0 0)
  rwa [show (w.alloc (cO c)).heap.size = w.heap.size + 1 by simp] at this
theorem bel2 {w V : World} {B b : Nat} (h : Below B w V) (hb : B ≤ b) (s g : Value) : Below B w ((V.setCell ⟨b, 0, none⟩ s).setCell ⟨b, 1, none⟩ g) := (h.setCell hb _).setCell hb _
set_option maxRecDepth 100000 in
set_option maxHeartbeats 1600000 in
theorem mint_arg (w : World) (v0 : Value) (c : Cp) (hc : rightB c = false) : Calls Try.prog 84 #[v0, c.v] w fun e w' => e = .returned (.tuple #[.agg #[i64 0, i64 0], i64 1]) ∧ Below w.heap.size w w' := by
  obtain ⟨hBV, hK1, hK2⟩ := two_boxes w c
  obtain ⟨V, hV⟩ : ∃ V, V = (w.alloc (cO c)).alloc (hO 0 0) := ⟨_, rfl⟩
  have HVe : Hid ((w.alloc (.cells #[i64 c.env, i64 c.kind, i64 c.num, i64 c.rts] 108)).alloc (.cells #[i64 0, i64 0] 43) = V) := hV.symm
  rw [← hV] at hBV hK1 hK2
  have HB := hid hBV
  have HK1 := hid hK1
  have HK2 := hid hK2
  have HC := hid hc
  clear hV hBV hK1 hK2 hc
  unfold Cp.v
  go_enter Try.func84, Try.ntmps84
  go_wp2_with fail
  rw [HVe.out]
  refine (right_ok _ c).mono ?_
  rintro e w1 ⟨rfl, hb1⟩
  rw [HC.out]
  have HK3 : Hid (w1.heap[w.heap.size + 1]? = some (hO 0 0)) := blk_below HK2.out hb1
  have HB1 : Hid (Below w.heap.size w w1) := HB.out.trans (hb1.mono HB.out.size)
  have k0 : w1.cell? ⟨w.heap.size + 1, 0, none⟩ = some (i64 0) := blk_cell HK3.out 0
  have k1 : w1.cell? ⟨w.heap.size + 1, 1, none⟩ = some (i64 0) := blk_cell HK3.out 1
  have kf : ∀ j, w1.frozen? ⟨w.heap.size + 1, j, none⟩ = false := blk_frozen HK3.out
  clear hb1
  go_wp2_with fail
  exact bodyPost_ret (results_cell Try.results84 rfl rfl (load42 (set2 HK3.out _ _))) rfl ⟨rfl, bel2 HB1.out (by omega) _ _⟩
set_option maxRecDepth 100000 in
set_option maxHeartbeats 1600000 in
theorem mint_nil (w : World) (c : Cp) (hc : rightB c = true) : Calls Try.prog 84 #[.pointer none, c.v] w fun e w' => e = .returned (.tuple #[.agg #[i64 0, i64 0], i64 7]) ∧ Below w.heap.size w w' := by
  obtain ⟨hBV, hK1, hK2⟩ := two_boxes w c
  obtain ⟨V, hV⟩ : ∃ V, V = (w.alloc (cO c)).alloc (hO 0 0) := ⟨_, rfl⟩
  have HVe : Hid ((w.alloc (.cells #[i64 c.env, i64 c.kind, i64 c.num, i64 c.rts] 108)).alloc (.cells #[i64 0, i64 0] 43) = V) := hV.symm
  rw [← hV] at hBV hK1 hK2
  have HB := hid hBV
  have HK1 := hid hK1
  have HK2 := hid hK2
  have HC := hid hc
  clear hV hBV hK1 hK2 hc
  unfold Cp.v
  go_enter Try.func84, Try.ntmps84
  go_wp2_with fail
  rw [HVe.out]
  refine (right_ok _ c).mono ?_
  rintro e w1 ⟨rfl, hb1⟩
  rw [HC.out]
  have HK3 : Hid (w1.heap[w.heap.size + 1]? = some (hO 0 0)) := blk_below HK2.out hb1
  have HB1 : Hid (Below w.heap.size w w1) := HB.out.trans (hb1.mono HB.out.size)
  have k0 : w1.cell? ⟨w.heap.size + 1, 0, none⟩ = some (i64 0) := blk_cell HK3.out 0
  have k1 : w1.cell? ⟨w.heap.size + 1, 1, none⟩ = some (i64 0) := blk_cell HK3.out 1
  have kf : ∀ j, w1.frozen? ⟨w.heap.size + 1, j, none⟩ = false := blk_frozen HK3.out
  clear hb1
  go_wp2_with fail
  exact bodyPost_ret (results_cell Try.results84 rfl rfl (load42 (set2 HK3.out _ _))) rfl ⟨rfl, bel2 HB1.out (by omega) _ _⟩
theorem Touch.of_below {q : Nat} {w w' : World} (h : Below w.heap.size w w') : Touch q w w' := ⟨h.os, h.tape, h.output, h.size, fun x hx _ => h.block x hx⟩
theorem Tb.set_new {w : World} {base b : Nat} {T : List Pl} (h : Tb w base b T) {q : Nat} (hq : b ≠ q) (s g : Value) : Tb ((w.setCell ⟨q, 0, none⟩ s).setCell ⟨q, 1, none⟩ g) base b T :=
  ⟨h.lo, h.len, by rw [Below.heap_setCell _ _ _ _ (by exact hq), Below.heap_setCell _ _ _ _ (by exact hq)]; exact h.row⟩
set_option maxRecDepth 100000 in
set_option maxHeartbeats 1600000 in
theorem mint_ok {w : World} {base b : Nat} {T : List Pl} (h : Tb w base b T) (c : Cp) (hc : rightB c = true) (i : Nat) (p : Pl) (hp : T[i]? = some p) (hf : p.c = zC) (hno : ∀ j q, j < i → T[j]? = some q → q.c ≠ zC) (hg0 : 0 ≤ p.gen) (hg1 : p.gen ≤ 1000000000) :
    Calls Try.prog 84 #[.pointer (some ⟨b, 0, none⟩), c.v] w fun e w' => e = .returned (.tuple #[.agg #[i64 i, i64 (p.gen + 1)], i64 0]) ∧ Tb w' base b (T.set i ⟨c, -1, p.gen + 1⟩) ∧ Touch b w w' := by
  obtain ⟨hBV, hK1, hK2⟩ := two_boxes w c
  obtain ⟨V, hV⟩ : ∃ V, V = (w.alloc (cO c)).alloc (hO 0 0) := ⟨_, rfl⟩
  have HVe : Hid ((w.alloc (.cells #[i64 c.env, i64 c.kind, i64 c.num, i64 c.rts] 108)).alloc (.cells #[i64 0, i64 0] 43) = V) := hV.symm
  rw [← hV] at hBV hK1 hK2
  have HB := hid hBV
  have HK1 := hid hK1
  have HK2 := hid hK2
  have HC := hid hc
  have HT := hid h
  have hbl := h.lt
  have HPut : Hid (∀ W, Tb W base b T → Calls Try.prog 88 #[.pointer (some ⟨b, 0, none⟩), c.v, i64 (-1)] W fun e w' => e = .returned (.tuple #[.agg #[i64 i, i64 (p.gen + 1)], i64 0]) ∧ Tb w' base b (T.set i ⟨c, -1, p.gen + 1⟩) ∧ Touch b W w') := fun W hW => put_ok hW c (-1) i p hp hf hno hg0 hg1
  clear hV hBV hK1 hK2 hc h hp hf hno
  unfold Cp.v
  go_enter Try.func84, Try.ntmps84
  go_wp2_with fail
  rw [HVe.out]
  refine (right_ok _ c).mono ?_
  rintro e w1 ⟨rfl, hb1⟩
  rw [HC.out]
  have HK3 : Hid (w1.heap[w.heap.size + 1]? = some (hO 0 0)) := blk_below HK2.out hb1
  have HB1 : Hid (Below w.heap.size w w1) := HB.out.trans (hb1.mono HB.out.size)
  have hq1 := blk_below HK1.out hb1
  have c0 : w1.cell? ⟨w.heap.size, 0, none⟩ = some (i64 c.env) := blk_cell hq1 0
  have c1 : w1.cell? ⟨w.heap.size, 1, none⟩ = some (i64 c.kind) := blk_cell hq1 1
  have c2 : w1.cell? ⟨w.heap.size, 2, none⟩ = some (i64 c.num) := blk_cell hq1 2
  have c3 : w1.cell? ⟨w.heap.size, 3, none⟩ = some (i64 c.rts) := blk_cell hq1 3
  clear hb1 hq1
  go_wp2_with fail
  refine (HPut.out w1 (HT.out.below HB1.out)).mono ?_
  rintro e w2 ⟨rfl, ht2, hto2⟩
  have HT2 := hid ht2
  have hlt3 := blk_lt HK3.out
  have HK4 : Hid (w2.heap[w.heap.size + 1]? = some (hO 0 0)) := (hto2.block _ hlt3 (by omega)).trans HK3.out
  have HTo : Hid (Touch b w w2) := (Touch.of_below HB1.out).trans hto2
  have k0 : w2.cell? ⟨w.heap.size + 1, 0, none⟩ = some (i64 0) := blk_cell HK4.out 0
  have k1 : w2.cell? ⟨w.heap.size + 1, 1, none⟩ = some (i64 0) := blk_cell HK4.out 1
  have kf : ∀ j, w2.frozen? ⟨w.heap.size + 1, j, none⟩ = false := blk_frozen HK4.out
  clear ht2 hto2 c0 c1 c2 c3
  go_wp2_with fail
  exact bodyPost_ret (results_cell Try.results84 rfl rfl (load42 (set2 HK4.out _ _))) rfl ⟨rfl, HT2.out.set_new (by omega) _ _, (HTo.out.setNew (by show w.heap.size ≤ w.heap.size + 1; omega) _).setNew (by show w.heap.size ≤ w.heap.size + 1; omega) _⟩
end Go.Proofs.Ytnknhencobhjdaa.Cp
