/- does: both sides do a step alike; no statement is proved in this text. -/
import Derived.Test.YtlkcpjefgelcoaaSm
namespace Go.Proofs.Ytlkcpjefgelcoaa
open Go.ChangeShapes Go.WideShapes Go.ChangeAt Go.RowKit Go.Deep
attribute [local go_sem ↓] Go.wp_at_zero Go.wp_at_succ

/-- The table of spans and the document's, side by side. -/
structure Bs (W : World) (t b r : Nat) (L : List Sp) : Prop where
  gs : GS L
  tb : Tb W t L
  rt : Rt W b r L
  lt : t < b
theorem Bs.below {W W' : World} {t b r : Nat} {L : List Sp} (h : Bs W t b r L) (hb : Below W.heap.size W W') : Bs W' t b r L := ⟨h.gs, h.tb.below hb, h.rt.below hb, h.lt⟩
theorem Bs.lob {W : World} {t b r : Nat} {L : List Sp} (h : Bs W t b r L) : t ≤ W.heap.size := Nat.le_of_lt h.tb.lt
theorem Bs.drew {W : World} {t b r : Nat} {L : List Sp} (h : Bs W t b r L) : Bs W.drew t b r L := ⟨h.gs, ⟨h.tb.blk⟩, by obtain ⟨h0, ao, cap, h1, h2⟩ := h.rt; exact ⟨h0, ao, cap, h1, own_keep h2 (fun _ _ h => h)⟩, h.lt⟩
theorem rt_touch {W W' : World} {t b r : Nat} {L : List Sp} (h : Rt W b r L) (hlt : t < b) (ho : Touch t W W') : Rt W' b r L := by
  obtain ⟨h0, ao, cap, h1, h2⟩ := h
  exact ⟨h0, ao, cap, (ho.block _ (blk_lt h1) (by omega)).trans h1, own_keep1 h2 fun k hk => ho.block k (h2.lt k hk).2 (by have := (h2.lt k hk).1; omega)⟩
theorem tb_fr2 {W W' : World} {t b : Nat} {L : List Sp} (h : Tb W t L) (hf : Fr b [29, 58] W W') : Tb W' t L := ⟨hf.kept _ _ h.blk rfl⟩
theorem fr_t {t : Nat} {W W' : World} {L : List Sp} (h : Tb W t L) (ho : Touch t W W') : Fr t [67, 29, 58] W W' := Fr.of_touch ho h.blk rfl (Nat.le_refl _)
theorem fr_r {t b : Nat} {W W' : World} (hf : Fr b [29, 58] W W') (hb : t ≤ b) : Fr t [67, 29, 58] W W' := (hf.lower hb).mono fun o ho => by
  cases o with
  | cells C ty fr => simp only [keeps, Bool.not_eq_true', List.contains_eq_mem, decide_eq_false_iff_not, List.mem_cons, List.not_mem_nil, or_false, not_or] at ho ⊢; exact ⟨ho.2.1, ho.2.2⟩
  | map es c => simp only [keeps]; rfl
  | _ => rfl
/-- Two calls that answer the same, and come to the same. -/
def Two3 (t b r : Nat) (L L' : List Sp) (f g : Nat) (xs : List Value) (v : Value) : Prop :=
  GS L' ∧ (∀ W, Tb W t L → Calls Try.prog f (pq t :: xs).toArray W fun e w' => e = .returned v ∧ Tb w' t L' ∧ Touch t W w') ∧ (∀ W, Rt W b r L → Calls Try.prog g (pq r :: xs).toArray W fun e w' => e = .returned v ∧ Rt w' b r L' ∧ Fr b [29, 58] W w')
theorem still1 {f : Nat} {args : Array Value} {W : World} {t : Nat} {L : List Sp} {v : Value} (hL : Tb W t L) (h : Calls Try.prog f args W fun e w' => e = .returned v ∧ Below W.heap.size W w') : Calls Try.prog f args W fun e w' => e = .returned v ∧ Tb w' t L ∧ Touch t W w' :=
  h.mono fun _ _ ⟨h1, h2⟩ => ⟨h1, hL.below h2, Touch.of_below h2⟩
theorem still0 {f : Nat} {args : Array Value} {W : World} {t : Nat} {L : List Sp} {v : Value} (hL : Tb W t L) (h : Calls Try.prog f args W fun e w' => e = .returned v ∧ w' = W) : Calls Try.prog f args W fun e w' => e = .returned v ∧ Tb w' t L ∧ Touch t W w' :=
  h.mono fun _ _ ⟨h1, h2⟩ => ⟨h1, h2 ▸ hL, h2 ▸ Touch.refl _ _⟩
theorem still2 {f : Nat} {args : Array Value} {W : World} {b r : Nat} {L : List Sp} {v : Value} (hL : Rt W b r L) (h : Calls Try.prog f args W fun e w' => e = .returned v ∧ Below W.heap.size W w') : Calls Try.prog f args W fun e w' => e = .returned v ∧ Rt w' b r L ∧ Fr b [29, 58] W w' :=
  h.mono fun _ _ ⟨h1, h2⟩ => ⟨h1, hL.below h2, Fr.of_below _ h2 hL.lob⟩
theorem map_two (t b r : Nat) (L : List Sp) (hG : GS L) (p n : Int) : ∃ a e L', Two3 t b r L L' 18 32 [i64 p, i64 n] (.tuple #[i64 a, i64 e]) := by
  have hl : L.length ≤ 1000 := by have := hG.len; omega
  by_cases hb : (1 ≤ p ∧ p ≤ 6) ∧ 1 ≤ n ∧ n ≤ 16
  · rcases map_dec (L.map ar) p n hb.2.1 with ⟨k, hk⟩ | hk
    · refine ⟨k, 0, L ++ [(p, (k : Int), n, 3)], hG.snoc (isA_mk ⟨hb.1.1, hb.1.2, by show (0 : Int) ≤ k; omega, hb.2.1, hk.1⟩) hk.2.1 (.inr rfl), fun W h => ?_, fun W h => rsmap_at p n k h hG hb hk⟩
      obtain ⟨q, hq⟩ : ∃ q : Nat, p = (q : Int) + 1 := ⟨(p - 1).toNat, by omega⟩
      obtain ⟨m, hm⟩ : ∃ m : Nat, n = (m : Int) := ⟨n.toNat, by omega⟩
      subst hq hm
      exact smap_yes W t q m k L h hG (by omega) (by omega) (by omega) hk
    · refine ⟨0, 5, L, hG, fun W h => ?_, fun W h => still2 h (rsmap_no p n 0 5 h hl rfl fun W' q hR => rmap_no p n hb hR hG.good hk)⟩
      obtain ⟨q, hq⟩ : ∃ q : Nat, p = (q : Int) + 1 := ⟨(p - 1).toNat, by omega⟩
      obtain ⟨m, hm⟩ : ∃ m : Nat, n = (m : Int) := ⟨n.toNat, by omega⟩
      subst hq hm
      exact smap_no W t q m L h hG (by omega) (by omega) (by omega) hk
  · exact ⟨0, 1, L, hG, fun W h => still0 h (smap_arg W (pq t) p n (by by_cases hp : 1 ≤ p ∧ p ≤ 6 <;> omega)), fun W h => still2 h (rsmap_no p n 0 1 h hl rfl fun W' q _ => rmap_arg W' q p n hb)⟩
theorem unmap_two (t b r : Nat) (L : List Sp) (hG : GS L) (p g : Int) : ∃ a e L', Two3 t b r L L' 20 33 [i64 p, i64 g] (.tuple #[i64 a, i64 e]) := by
  have hl : L.length ≤ 1000 := by have := hG.len; omega
  cases hf : L.find? (beg p g) with
  | none => exact ⟨0, 6, L, hG, fun W h => still1 h (sunmap_no W (pq t) p g (fun W' hb => sfrom_none W' t L p g (h.below hb) hG hf)), fun W h => still2 h (rsun_no p g h hl hf)⟩
  | some s => exact ⟨s.2.2.1, 0, L.filter (keepF p g), hG.filter (fun a => !fromF p g a), fun W h => sunmap_yes W t L p g s h hG hf, fun W h => rsun_yes p g s h hG hf⟩
theorem prot_two (t b r : Nat) (L : List Sp) (hG : GS L) (p g o : Int) : ∃ e L', Two3 t b r L L' 30 34 [i64 p, i64 g, i64 o] (i64 e) := by
  have hl : L.length ≤ 1000 := by have := hG.len; omega
  cases hf : L.find? (beg p g) with
  | none => exact ⟨6, L, hG, fun W h => still1 h (sprot_no W (pq t) p g o (fun W' hb => sfrom_none W' t L p g (h.below hb) hG hf)), fun W h => still2 h (rprot_no p g o h hl hf)⟩
  | some s =>
    by_cases ho : o = 1 ∨ o = 3
    · exact ⟨0, L.map (setP p g o), hG.setP p g ho, fun W h => sprot_yes W t L p g o s h hG hf ho, fun W h => rprot_yes p g o s h hG hf ho⟩
    · exact ⟨1, L, hG, fun W h => still1 h (sprot_arg W t L p g o s h hG hf ho), fun W h => still2 h (rprot_arg p g o s h hl hf ho)⟩
theorem fork_two (t b r : Nat) (L : List Sp) (hG : GS L) (p c : Int) : ∃ e L', Two3 t b r L L' 22 35 [i64 p, i64 c] (i64 e) := by
  have hl : L.length ≤ 1000 := by have := hG.len; omega
  by_cases hk : FkOk p c
  · have hk' := hk
    obtain ⟨h1, h2, h3⟩ := hk'
    obtain ⟨u, hu⟩ : ∃ u : Nat, p = (u : Int) + 1 := ⟨(p - 1).toNat, by omega⟩
    obtain ⟨q, hq⟩ : ∃ q : Nat, c = (q : Int) + 1 := ⟨(c - 1).toNat, by omega⟩
    subst hu hq
    by_cases hc : cntL (L.map ar) ((q : Int) + 1) = 0
    · exact ⟨0, forkS L ((u : Int) + 1) ((q : Int) + 1), hG.fork (by omega) (by omega) hc, fun W h => sfork_yes W t u q L h hG (by omega) (by omega) (by omega) hc, fun W h => rsfork_ok _ _ h hG hk hc⟩
    · exact ⟨7, L, hG, fun W h => still0 h (sfork_st W t u q L h hG (by omega) (by omega) (by omega) hc), fun W h => still2 h (rsfork_no _ _ 7 h hl rfl fun W' z hR => rfork_st _ _ hk hR (by simp; omega) (by omega))⟩
  · refine ⟨1, L, hG, fun W h => still0 h (sfork_arg W (pq t) p c ?_), fun W h => still2 h (rsfork_no p c 1 h hl rfl fun W' z _ => rfork_arg W' z p c hk)⟩
    by_cases a : 1 ≤ p ∧ p ≤ 6
    · by_cases d : 1 ≤ c ∧ c ≤ 6
      · exact .inr (.inr (Classical.byContradiction fun e => hk ⟨a, d, e⟩))
      · exact .inr (.inl d)
    · exact .inl a
theorem drop_two (t b r : Nat) (L : List Sp) (hG : GS L) (p : Int) : ∃ e L', Two3 t b r L L' 24 36 [i64 p] (i64 e) := by
  have hl : L.length ≤ 1000 := by have := hG.len; omega
  refine ⟨cntS L p, dropS L p, hG.drop p, fun W h => ?_, fun W h => rsdrop_ok h hl p⟩
  have := sdrop_gen W t L p h hG
  rw [hG.cntS] at this
  exact this
def BsX (W : World) (t b r : Nat) : Prop := ∃ L, Bs W t b r L
theorem BsX.below {W W' : World} {t b r : Nat} (h : BsX W t b r) (hb : Below W.heap.size W W') : BsX W' t b r := by
  obtain ⟨L, h⟩ := h
  exact ⟨L, h.below hb⟩
theorem BsX.lob {W : World} {t b r : Nat} (h : BsX W t b r) : t ≤ W.heap.size := by
  obtain ⟨L, h⟩ := h
  exact h.lob
theorem BsX.drew {W : World} {t b r : Nat} (h : BsX W t b r) : BsX W.drew t b r := by
  obtain ⟨L, h⟩ := h
  exact ⟨L, h.drew⟩
set_option maxRecDepth 100000 in
set_option maxHeartbeats 3200000 in
theorem does0 (w : World) (t b r : Nat) (L : List Sp) (x : Stp) (h : Bs w t b r L) (hk : x.what = 0) : Calls Try.prog 10 #[pq t, pq r, x.v] w fun e w' => e = .returned (.bool true) ∧ BsX w' t b r ∧ Fr t [67, 29, 58] w w' := by
  have z0 : (x.what == 0) = true := by simp only [beq_iff_eq]; omega
  clear hk
  have HV : Hid (Bs (w.alloc (spO x)) t b r L) := h.below (below_one w _)
  have HX : Hid ((w.alloc (spO x)).heap[w.heap.size]? = some (spO x)) := heap_last w _
  have HFV : Hid (Fr t [67, 29, 58] w (w.alloc (spO x))) := Fr.of_below _ (below_one w _) h.lob
  have HLT : Hid (t < w.heap.size) := h.tb.lt
  obtain ⟨A, E, L2, hg, hc1, hc2⟩ := map_two t b r L h.gs x.pid x.n
  clear h
  have HG := hid hg
  have D1 := hid (hc1 (w.alloc (spO x)) HV.out.tb)
  clear hg hc1
  have HC2 := hid hc2
  clear hc2
  go_enter Try.func10, Try.ntmps10
  go_wp2_with fail
  refine D1.out.mono ?_
  rintro e w2 ⟨rfl, hT2, hO2⟩
  have HT2 := hid hT2
  have HR2 := hid (rt_touch HV.out.rt HV.out.lt hO2)
  have HF2 : Hid (Fr t [67, 29, 58] w w2) := HFV.out.trans (fr_t HV.out.tb hO2)
  have HX2 : Hid (w2.heap[w.heap.size]? = some (spO x)) := (hO2.block _ (blk_lt HX.out) (by have := HLT.out; omega)).trans HX.out
  have D2 := hid (HC2.out w2 HR2.out)
  clear hT2 hO2 D1
  obtain ⟨y0, y1, y2, y3⟩ := four_cells HX2.out
  have hx2 := blk_lt HX2.out
  go_wp2_with fail
  refine D2.out.mono ?_
  rintro e w3 ⟨rfl, hR3, hf3⟩
  have HB3 : Hid (BsX w3 t b r) := ⟨L2, HG.out, tb_fr2 HT2.out hf3, hR3, HV.out.lt⟩
  have HF3 : Hid (Fr t [67, 29, 58] w w3) := HF2.out.trans (fr_r hf3 (Nat.le_of_lt HV.out.lt))
  have HX3 : Hid (w3.heap[w.heap.size]? = some (spO x)) := hf3.kept _ _ HX2.out rfl
  clear hR3 hf3 D2
  clear y0 y1 y2 y3 hx2
  go_wp2_with fail
  go_ret
  exact ⟨rfl, HB3.out, HF3.out⟩
set_option maxRecDepth 100000 in
set_option maxHeartbeats 3200000 in
theorem does1 (w : World) (t b r : Nat) (L : List Sp) (x : Stp) (h : Bs w t b r L) (hk : x.what = 1) : Calls Try.prog 10 #[pq t, pq r, x.v] w fun e w' => e = .returned (.bool true) ∧ BsX w' t b r ∧ Fr t [67, 29, 58] w w' := by
  have z0 : (x.what == 0) = false := by simp only [beq_eq_false_iff_ne, ne_eq]; omega
  have z1 : (x.what == 1) = true := by simp only [beq_iff_eq]; omega
  clear hk
  have HV : Hid (Bs (w.alloc (spO x)) t b r L) := h.below (below_one w _)
  have HX : Hid ((w.alloc (spO x)).heap[w.heap.size]? = some (spO x)) := heap_last w _
  have HFV : Hid (Fr t [67, 29, 58] w (w.alloc (spO x))) := Fr.of_below _ (below_one w _) h.lob
  have HLT : Hid (t < w.heap.size) := h.tb.lt
  obtain ⟨A, E, L2, hg, hc1, hc2⟩ := map_two t b r L h.gs x.pid x.n
  clear h
  have HG := hid hg
  have D1 := hid (hc1 (w.alloc (spO x)) HV.out.tb)
  clear hg hc1
  have HC2 := hid hc2
  clear hc2
  go_enter Try.func10, Try.ntmps10
  go_wp2_with fail
  refine D1.out.mono ?_
  rintro e w2 ⟨rfl, hT2, hO2⟩
  have HT2 := hid hT2
  have HR2 := hid (rt_touch HV.out.rt HV.out.lt hO2)
  have HF2 : Hid (Fr t [67, 29, 58] w w2) := HFV.out.trans (fr_t HV.out.tb hO2)
  have HX2 : Hid (w2.heap[w.heap.size]? = some (spO x)) := (hO2.block _ (blk_lt HX.out) (by have := HLT.out; omega)).trans HX.out
  have D2 := hid (HC2.out w2 HR2.out)
  clear hT2 hO2 D1
  obtain ⟨y0, y1, y2, y3⟩ := four_cells HX2.out
  have hx2 := blk_lt HX2.out
  go_wp2_with fail
  refine D2.out.mono ?_
  rintro e w3 ⟨rfl, hR3, hf3⟩
  have HB3 : Hid (BsX w3 t b r) := ⟨L2, HG.out, tb_fr2 HT2.out hf3, hR3, HV.out.lt⟩
  have HF3 : Hid (Fr t [67, 29, 58] w w3) := HF2.out.trans (fr_r hf3 (Nat.le_of_lt HV.out.lt))
  have HX3 : Hid (w3.heap[w.heap.size]? = some (spO x)) := hf3.kept _ _ HX2.out rfl
  clear hR3 hf3 D2
  clear y0 y1 y2 y3 hx2
  go_wp2_with fail
  go_ret
  exact ⟨rfl, HB3.out, HF3.out⟩
set_option maxRecDepth 100000 in
set_option maxHeartbeats 3200000 in
theorem does2 (w : World) (t b r : Nat) (L : List Sp) (x : Stp) (h : Bs w t b r L) (hk : x.what = 2) : Calls Try.prog 10 #[pq t, pq r, x.v] w fun e w' => e = .returned (.bool true) ∧ BsX w' t b r ∧ Fr t [67, 29, 58] w w' := by
  have z0 : (x.what == 0) = false := by simp only [beq_eq_false_iff_ne, ne_eq]; omega
  have z1 : (x.what == 1) = false := by simp only [beq_eq_false_iff_ne, ne_eq]; omega
  have z2 : (x.what == 2) = true := by simp only [beq_iff_eq]; omega
  clear hk
  have HV : Hid (Bs (w.alloc (spO x)) t b r L) := h.below (below_one w _)
  have HX : Hid ((w.alloc (spO x)).heap[w.heap.size]? = some (spO x)) := heap_last w _
  have HFV : Hid (Fr t [67, 29, 58] w (w.alloc (spO x))) := Fr.of_below _ (below_one w _) h.lob
  have HLT : Hid (t < w.heap.size) := h.tb.lt
  obtain ⟨A, E, L2, hg, hc1, hc2⟩ := map_two t b r L h.gs x.pid x.n
  clear h
  have HG := hid hg
  have D1 := hid (hc1 (w.alloc (spO x)) HV.out.tb)
  clear hg hc1
  have HC2 := hid hc2
  clear hc2
  go_enter Try.func10, Try.ntmps10
  go_wp2_with fail
  refine D1.out.mono ?_
  rintro e w2 ⟨rfl, hT2, hO2⟩
  have HT2 := hid hT2
  have HR2 := hid (rt_touch HV.out.rt HV.out.lt hO2)
  have HF2 : Hid (Fr t [67, 29, 58] w w2) := HFV.out.trans (fr_t HV.out.tb hO2)
  have HX2 : Hid (w2.heap[w.heap.size]? = some (spO x)) := (hO2.block _ (blk_lt HX.out) (by have := HLT.out; omega)).trans HX.out
  have D2 := hid (HC2.out w2 HR2.out)
  clear hT2 hO2 D1
  obtain ⟨y0, y1, y2, y3⟩ := four_cells HX2.out
  have hx2 := blk_lt HX2.out
  go_wp2_with fail
  refine D2.out.mono ?_
  rintro e w3 ⟨rfl, hR3, hf3⟩
  have HB3 : Hid (BsX w3 t b r) := ⟨L2, HG.out, tb_fr2 HT2.out hf3, hR3, HV.out.lt⟩
  have HF3 : Hid (Fr t [67, 29, 58] w w3) := HF2.out.trans (fr_r hf3 (Nat.le_of_lt HV.out.lt))
  have HX3 : Hid (w3.heap[w.heap.size]? = some (spO x)) := hf3.kept _ _ HX2.out rfl
  clear hR3 hf3 D2
  clear y0 y1 y2 y3 hx2
  go_wp2_with fail
  go_ret
  exact ⟨rfl, HB3.out, HF3.out⟩
set_option maxRecDepth 100000 in
set_option maxHeartbeats 3200000 in
theorem does3 (w : World) (t b r : Nat) (L : List Sp) (x : Stp) (h : Bs w t b r L) (hk : x.what = 3) : Calls Try.prog 10 #[pq t, pq r, x.v] w fun e w' => e = .returned (.bool true) ∧ BsX w' t b r ∧ Fr t [67, 29, 58] w w' := by
  have z0 : (x.what == 0) = false := by simp only [beq_eq_false_iff_ne, ne_eq]; omega
  have z1 : (x.what == 1) = false := by simp only [beq_eq_false_iff_ne, ne_eq]; omega
  have z2 : (x.what == 2) = false := by simp only [beq_eq_false_iff_ne, ne_eq]; omega
  have z3 : (x.what == 3) = true := by simp only [beq_iff_eq]; omega
  clear hk
  have HV : Hid (Bs (w.alloc (spO x)) t b r L) := h.below (below_one w _)
  have HX : Hid ((w.alloc (spO x)).heap[w.heap.size]? = some (spO x)) := heap_last w _
  have HFV : Hid (Fr t [67, 29, 58] w (w.alloc (spO x))) := Fr.of_below _ (below_one w _) h.lob
  have HLT : Hid (t < w.heap.size) := h.tb.lt
  obtain ⟨A, E, L2, hg, hc1, hc2⟩ := unmap_two t b r L h.gs x.pid x.fst
  clear h
  have HG := hid hg
  have D1 := hid (hc1 (w.alloc (spO x)) HV.out.tb)
  clear hg hc1
  have HC2 := hid hc2
  clear hc2
  go_enter Try.func10, Try.ntmps10
  go_wp2_with fail
  refine D1.out.mono ?_
  rintro e w2 ⟨rfl, hT2, hO2⟩
  have HT2 := hid hT2
  have HR2 := hid (rt_touch HV.out.rt HV.out.lt hO2)
  have HF2 : Hid (Fr t [67, 29, 58] w w2) := HFV.out.trans (fr_t HV.out.tb hO2)
  have HX2 : Hid (w2.heap[w.heap.size]? = some (spO x)) := (hO2.block _ (blk_lt HX.out) (by have := HLT.out; omega)).trans HX.out
  have D2 := hid (HC2.out w2 HR2.out)
  clear hT2 hO2 D1
  obtain ⟨y0, y1, y2, y3⟩ := four_cells HX2.out
  have hx2 := blk_lt HX2.out
  go_wp2_with fail
  refine D2.out.mono ?_
  rintro e w3 ⟨rfl, hR3, hf3⟩
  have HB3 : Hid (BsX w3 t b r) := ⟨L2, HG.out, tb_fr2 HT2.out hf3, hR3, HV.out.lt⟩
  have HF3 : Hid (Fr t [67, 29, 58] w w3) := HF2.out.trans (fr_r hf3 (Nat.le_of_lt HV.out.lt))
  have HX3 : Hid (w3.heap[w.heap.size]? = some (spO x)) := hf3.kept _ _ HX2.out rfl
  clear hR3 hf3 D2
  clear y0 y1 y2 y3 hx2
  go_wp2_with fail
  go_ret
  exact ⟨rfl, HB3.out, HF3.out⟩
set_option maxRecDepth 100000 in
set_option maxHeartbeats 3200000 in
theorem does4 (w : World) (t b r : Nat) (L : List Sp) (x : Stp) (h : Bs w t b r L) (hk : x.what = 4) : Calls Try.prog 10 #[pq t, pq r, x.v] w fun e w' => e = .returned (.bool true) ∧ BsX w' t b r ∧ Fr t [67, 29, 58] w w' := by
  have z0 : (x.what == 0) = false := by simp only [beq_eq_false_iff_ne, ne_eq]; omega
  have z1 : (x.what == 1) = false := by simp only [beq_eq_false_iff_ne, ne_eq]; omega
  have z2 : (x.what == 2) = false := by simp only [beq_eq_false_iff_ne, ne_eq]; omega
  have z3 : (x.what == 3) = false := by simp only [beq_eq_false_iff_ne, ne_eq]; omega
  have z4 : (x.what == 4) = true := by simp only [beq_iff_eq]; omega
  clear hk
  have HV : Hid (Bs (w.alloc (spO x)) t b r L) := h.below (below_one w _)
  have HX : Hid ((w.alloc (spO x)).heap[w.heap.size]? = some (spO x)) := heap_last w _
  have HFV : Hid (Fr t [67, 29, 58] w (w.alloc (spO x))) := Fr.of_below _ (below_one w _) h.lob
  have HLT : Hid (t < w.heap.size) := h.tb.lt
  obtain ⟨E, L2, hg, hc1, hc2⟩ := prot_two t b r L h.gs x.pid x.fst x.n
  clear h
  have HG := hid hg
  have HVd := hid HV.out.drew
  have HFd : Hid (Fr t [67, 29, 58] w (w.alloc (spO x)).drew) := HFV.out.drewN 1
  have D1 := hid (hc1 (w.alloc (spO x)).drew HVd.out.tb)
  have HC2 := hid hc2
  clear hg hc1 hc2
  go_enter Try.func10, Try.ntmps10
  go_upto_region 14 with fail
  have HSd : Hid ((fun W : World => W.heap[w.heap.size]? = some (spO x)) (w.alloc (spO x)).drew) := HX.out
  refine wp_region_noPanic ?_
  refine wp_region_last (fun W : World => W.heap[w.heap.size]? = some (spO x)) 17 (by kernel_rfl) ?_
  refine wpL_take 0 78 (pq t) [] rfl rfl (by kernel_rfl) (by decide) (by kernel_rfl) (by kernel_rfl) (by kernel_rfl) (fun _ _ _ h => h) HSd.out (by rfl) (fun W hW => by obtain ⟨y0, y1, y2, y3⟩ := four_cells hW; go_simp) ?_
  simp only [Act.put, List.setIfInBounds_toArray, List.set_cons_zero, List.set_cons_succ]
  refine wpL_take 1 79 (.pointer (some ⟨w.heap.size, 1, none⟩)) [] rfl rfl (by kernel_rfl) (by decide) (by kernel_rfl) (by kernel_rfl) (by kernel_rfl) (fun _ _ _ h => h) HSd.out (by rfl) (fun W hW => by obtain ⟨y0, y1, y2, y3⟩ := four_cells hW; go_simp) ?_
  simp only [Act.put, List.setIfInBounds_toArray, List.set_cons_zero, List.set_cons_succ]
  refine wpL_take 2 80 (i64 x.pid) [] rfl rfl (by kernel_rfl) (by decide) (by kernel_rfl) (by kernel_rfl) (by kernel_rfl) (fun _ _ _ h => h) HSd.out (by rfl) (fun W hW => by obtain ⟨y0, y1, y2, y3⟩ := four_cells hW; go_simp) ?_
  simp only [Act.put, List.setIfInBounds_toArray, List.set_cons_zero, List.set_cons_succ]
  refine wpL_take 3 81 (.pointer (some ⟨w.heap.size, 2, none⟩)) [] rfl rfl (by kernel_rfl) (by decide) (by kernel_rfl) (by kernel_rfl) (by kernel_rfl) (fun _ _ _ h => h) HSd.out (by rfl) (fun W hW => by obtain ⟨y0, y1, y2, y3⟩ := four_cells hW; go_simp) ?_
  simp only [Act.put, List.setIfInBounds_toArray, List.set_cons_zero, List.set_cons_succ]
  refine wpL_take 4 82 (i64 x.fst) [] rfl rfl (by kernel_rfl) (by decide) (by kernel_rfl) (by kernel_rfl) (by kernel_rfl) (fun _ _ _ h => h) HSd.out (by rfl) (fun W hW => by obtain ⟨y0, y1, y2, y3⟩ := four_cells hW; go_simp) ?_
  simp only [Act.put, List.setIfInBounds_toArray, List.set_cons_zero, List.set_cons_succ]
  refine wpL_take 5 83 (.pointer (some ⟨w.heap.size, 3, none⟩)) [] rfl rfl (by kernel_rfl) (by decide) (by kernel_rfl) (by kernel_rfl) (by kernel_rfl) (fun _ _ _ h => h) HSd.out (by rfl) (fun W hW => by obtain ⟨y0, y1, y2, y3⟩ := four_cells hW; go_simp) ?_
  simp only [Act.put, List.setIfInBounds_toArray, List.set_cons_zero, List.set_cons_succ]
  refine wpL_take 6 84 (i64 x.n) [] rfl rfl (by kernel_rfl) (by decide) (by kernel_rfl) (by kernel_rfl) (by kernel_rfl) (fun _ _ _ h => h) HSd.out (by rfl) (fun W hW => by obtain ⟨y0, y1, y2, y3⟩ := four_cells hW; go_simp) ?_
  simp only [Act.put, List.setIfInBounds_toArray, List.set_cons_zero, List.set_cons_succ]
  refine wpL_take 8 86 (pq r) [] rfl rfl (by kernel_rfl) (by decide) (by kernel_rfl) (by kernel_rfl) (by kernel_rfl) (fun _ _ _ h => h) HSd.out (by rfl) (fun W hW => by obtain ⟨y0, y1, y2, y3⟩ := four_cells hW; go_simp) ?_
  simp only [Act.put, List.setIfInBounds_toArray, List.set_cons_zero, List.set_cons_succ]
  refine wpL_take 9 87 (.pointer (some ⟨w.heap.size, 1, none⟩)) [] rfl rfl (by kernel_rfl) (by decide) (by kernel_rfl) (by kernel_rfl) (by kernel_rfl) (fun _ _ _ h => h) HSd.out (by rfl) (fun W hW => by obtain ⟨y0, y1, y2, y3⟩ := four_cells hW; go_simp) ?_
  simp only [Act.put, List.setIfInBounds_toArray, List.set_cons_zero, List.set_cons_succ]
  refine wpL_take 10 88 (i64 x.pid) [] rfl rfl (by kernel_rfl) (by decide) (by kernel_rfl) (by kernel_rfl) (by kernel_rfl) (fun _ _ _ h => h) HSd.out (by rfl) (fun W hW => by obtain ⟨y0, y1, y2, y3⟩ := four_cells hW; go_simp) ?_
  simp only [Act.put, List.setIfInBounds_toArray, List.set_cons_zero, List.set_cons_succ]
  refine wpL_take 11 89 (.pointer (some ⟨w.heap.size, 2, none⟩)) [] rfl rfl (by kernel_rfl) (by decide) (by kernel_rfl) (by kernel_rfl) (by kernel_rfl) (fun _ _ _ h => h) HSd.out (by rfl) (fun W hW => by obtain ⟨y0, y1, y2, y3⟩ := four_cells hW; go_simp) ?_
  simp only [Act.put, List.setIfInBounds_toArray, List.set_cons_zero, List.set_cons_succ]
  refine wpL_take 12 90 (i64 x.fst) [] rfl rfl (by kernel_rfl) (by decide) (by kernel_rfl) (by kernel_rfl) (by kernel_rfl) (fun _ _ _ h => h) HSd.out (by rfl) (fun W hW => by obtain ⟨y0, y1, y2, y3⟩ := four_cells hW; go_simp) ?_
  simp only [Act.put, List.setIfInBounds_toArray, List.set_cons_zero, List.set_cons_succ]
  refine wpL_take 13 91 (.pointer (some ⟨w.heap.size, 3, none⟩)) [] rfl rfl (by kernel_rfl) (by decide) (by kernel_rfl) (by kernel_rfl) (by kernel_rfl) (fun _ _ _ h => h) HSd.out (by rfl) (fun W hW => by obtain ⟨y0, y1, y2, y3⟩ := four_cells hW; go_simp) ?_
  simp only [Act.put, List.setIfInBounds_toArray, List.set_cons_zero, List.set_cons_succ]
  refine wpL_take 14 92 (i64 x.n) [] rfl rfl (by kernel_rfl) (by decide) (by kernel_rfl) (by kernel_rfl) (by kernel_rfl) (fun _ _ _ h => h) HSd.out (by rfl) (fun W hW => by obtain ⟨y0, y1, y2, y3⟩ := four_cells hW; go_simp) ?_
  simp only [Act.put, List.setIfInBounds_toArray, List.set_cons_zero, List.set_cons_succ]
  refine wpL_one 7 rfl (by kernel_rfl) (by rfl) (fun K hK => ?_)
  go_simp
  refine D1.out.mono ?_
  rintro e w2 ⟨rfl, hT2, hO2⟩
  have HT2 := hid hT2
  have HR2 := hid (rt_touch HVd.out.rt HVd.out.lt hO2)
  have HF2 : Hid (Fr t [67, 29, 58] w w2) := HFd.out.trans (fr_t HVd.out.tb hO2)
  have HX2 : Hid (w2.heap[w.heap.size]? = some (spO x)) := (hO2.block _ (blk_lt HSd.out) (by have := HLT.out; omega)).trans HSd.out
  have D2 := hid (HC2.out w2 HR2.out)
  clear hT2 hO2 D1
  have HS2 : Hid ((fun W : World => W.heap[w.heap.size]? = some (spO x)) w2) := HX2.out
  go_simp
  refine hK.out _ _ (fun _ => HS2.out) ?_
  clear hK K
  refine wpL_one 15 rfl (by kernel_rfl) (by rfl) (fun K hK => ?_)
  go_simp
  refine D2.out.mono ?_
  rintro e w3 ⟨rfl, hR3, hf3⟩
  have HB3 : Hid (BsX w3 t b r) := ⟨L2, HG.out, tb_fr2 HT2.out hf3, hR3, HVd.out.lt⟩
  have HF3 : Hid (Fr t [67, 29, 58] w w3) := HF2.out.trans (fr_r hf3 (Nat.le_of_lt HVd.out.lt))
  have HX3 : Hid (w3.heap[w.heap.size]? = some (spO x)) := hf3.kept _ _ HX2.out rfl
  clear hR3 hf3 D2
  have HS3 : Hid ((fun W : World => W.heap[w.heap.size]? = some (spO x)) w3) := HX3.out
  go_simp
  refine hK.out _ _ (fun _ => HS3.out) ?_
  clear hK K
  refine wpL_take 16 94 (.bool true) [] rfl rfl (by kernel_rfl) (by decide) (by kernel_rfl) (by kernel_rfl) (by kernel_rfl) (fun _ _ _ h => h) HS3.out (by rfl) (fun W hW => by obtain ⟨y0, y1, y2, y3⟩ := four_cells hW; go_simp) ?_
  simp only [Act.put, List.setIfInBounds_toArray, List.set_cons_zero, List.set_cons_succ]
  refine wpL_one 17 rfl (by kernel_rfl) (by rfl) (fun K hK => ?_)
  go_simp
  refine hK.out _ _ (fun h => absurd rfl h) ?_
  clear hK K
  refine wpL_done (by kernel_rfl) ?_
  refine NoPanic.normal ?_
  go_wp2_with fail
  go_ret
  exact ⟨rfl, HB3.out, HF3.out⟩
set_option maxRecDepth 100000 in
set_option maxHeartbeats 3200000 in
theorem does5 (w : World) (t b r : Nat) (L : List Sp) (x : Stp) (h : Bs w t b r L) (hk : x.what = 5) : Calls Try.prog 10 #[pq t, pq r, x.v] w fun e w' => e = .returned (.bool true) ∧ BsX w' t b r ∧ Fr t [67, 29, 58] w w' := by
  have z0 : (x.what == 0) = false := by simp only [beq_eq_false_iff_ne, ne_eq]; omega
  have z1 : (x.what == 1) = false := by simp only [beq_eq_false_iff_ne, ne_eq]; omega
  have z2 : (x.what == 2) = false := by simp only [beq_eq_false_iff_ne, ne_eq]; omega
  have z3 : (x.what == 3) = false := by simp only [beq_eq_false_iff_ne, ne_eq]; omega
  have z4 : (x.what == 4) = false := by simp only [beq_eq_false_iff_ne, ne_eq]; omega
  have z5 : (x.what == 5) = true := by simp only [beq_iff_eq]; omega
  clear hk
  have HV : Hid (Bs (w.alloc (spO x)) t b r L) := h.below (below_one w _)
  have HX : Hid ((w.alloc (spO x)).heap[w.heap.size]? = some (spO x)) := heap_last w _
  have HFV : Hid (Fr t [67, 29, 58] w (w.alloc (spO x))) := Fr.of_below _ (below_one w _) h.lob
  have HLT : Hid (t < w.heap.size) := h.tb.lt
  obtain ⟨E, L2, hg, hc1, hc2⟩ := prot_two t b r L h.gs x.pid x.fst x.n
  clear h
  have HG := hid hg
  have HVd := hid HV.out.drew
  have HFd : Hid (Fr t [67, 29, 58] w (w.alloc (spO x)).drew) := HFV.out.drewN 1
  have D1 := hid (hc1 (w.alloc (spO x)).drew HVd.out.tb)
  have HC2 := hid hc2
  clear hg hc1 hc2
  go_enter Try.func10, Try.ntmps10
  go_upto_region 14 with fail
  have HSd : Hid ((fun W : World => W.heap[w.heap.size]? = some (spO x)) (w.alloc (spO x)).drew) := HX.out
  refine wp_region_noPanic ?_
  refine wp_region_last (fun W : World => W.heap[w.heap.size]? = some (spO x)) 17 (by kernel_rfl) ?_
  refine wpL_take 0 78 (pq t) [] rfl rfl (by kernel_rfl) (by decide) (by kernel_rfl) (by kernel_rfl) (by kernel_rfl) (fun _ _ _ h => h) HSd.out (by rfl) (fun W hW => by obtain ⟨y0, y1, y2, y3⟩ := four_cells hW; go_simp) ?_
  simp only [Act.put, List.setIfInBounds_toArray, List.set_cons_zero, List.set_cons_succ]
  refine wpL_take 1 79 (.pointer (some ⟨w.heap.size, 1, none⟩)) [] rfl rfl (by kernel_rfl) (by decide) (by kernel_rfl) (by kernel_rfl) (by kernel_rfl) (fun _ _ _ h => h) HSd.out (by rfl) (fun W hW => by obtain ⟨y0, y1, y2, y3⟩ := four_cells hW; go_simp) ?_
  simp only [Act.put, List.setIfInBounds_toArray, List.set_cons_zero, List.set_cons_succ]
  refine wpL_take 2 80 (i64 x.pid) [] rfl rfl (by kernel_rfl) (by decide) (by kernel_rfl) (by kernel_rfl) (by kernel_rfl) (fun _ _ _ h => h) HSd.out (by rfl) (fun W hW => by obtain ⟨y0, y1, y2, y3⟩ := four_cells hW; go_simp) ?_
  simp only [Act.put, List.setIfInBounds_toArray, List.set_cons_zero, List.set_cons_succ]
  refine wpL_take 3 81 (.pointer (some ⟨w.heap.size, 2, none⟩)) [] rfl rfl (by kernel_rfl) (by decide) (by kernel_rfl) (by kernel_rfl) (by kernel_rfl) (fun _ _ _ h => h) HSd.out (by rfl) (fun W hW => by obtain ⟨y0, y1, y2, y3⟩ := four_cells hW; go_simp) ?_
  simp only [Act.put, List.setIfInBounds_toArray, List.set_cons_zero, List.set_cons_succ]
  refine wpL_take 4 82 (i64 x.fst) [] rfl rfl (by kernel_rfl) (by decide) (by kernel_rfl) (by kernel_rfl) (by kernel_rfl) (fun _ _ _ h => h) HSd.out (by rfl) (fun W hW => by obtain ⟨y0, y1, y2, y3⟩ := four_cells hW; go_simp) ?_
  simp only [Act.put, List.setIfInBounds_toArray, List.set_cons_zero, List.set_cons_succ]
  refine wpL_take 5 83 (.pointer (some ⟨w.heap.size, 3, none⟩)) [] rfl rfl (by kernel_rfl) (by decide) (by kernel_rfl) (by kernel_rfl) (by kernel_rfl) (fun _ _ _ h => h) HSd.out (by rfl) (fun W hW => by obtain ⟨y0, y1, y2, y3⟩ := four_cells hW; go_simp) ?_
  simp only [Act.put, List.setIfInBounds_toArray, List.set_cons_zero, List.set_cons_succ]
  refine wpL_take 6 84 (i64 x.n) [] rfl rfl (by kernel_rfl) (by decide) (by kernel_rfl) (by kernel_rfl) (by kernel_rfl) (fun _ _ _ h => h) HSd.out (by rfl) (fun W hW => by obtain ⟨y0, y1, y2, y3⟩ := four_cells hW; go_simp) ?_
  simp only [Act.put, List.setIfInBounds_toArray, List.set_cons_zero, List.set_cons_succ]
  refine wpL_take 8 86 (pq r) [] rfl rfl (by kernel_rfl) (by decide) (by kernel_rfl) (by kernel_rfl) (by kernel_rfl) (fun _ _ _ h => h) HSd.out (by rfl) (fun W hW => by obtain ⟨y0, y1, y2, y3⟩ := four_cells hW; go_simp) ?_
  simp only [Act.put, List.setIfInBounds_toArray, List.set_cons_zero, List.set_cons_succ]
  refine wpL_take 9 87 (.pointer (some ⟨w.heap.size, 1, none⟩)) [] rfl rfl (by kernel_rfl) (by decide) (by kernel_rfl) (by kernel_rfl) (by kernel_rfl) (fun _ _ _ h => h) HSd.out (by rfl) (fun W hW => by obtain ⟨y0, y1, y2, y3⟩ := four_cells hW; go_simp) ?_
  simp only [Act.put, List.setIfInBounds_toArray, List.set_cons_zero, List.set_cons_succ]
  refine wpL_take 10 88 (i64 x.pid) [] rfl rfl (by kernel_rfl) (by decide) (by kernel_rfl) (by kernel_rfl) (by kernel_rfl) (fun _ _ _ h => h) HSd.out (by rfl) (fun W hW => by obtain ⟨y0, y1, y2, y3⟩ := four_cells hW; go_simp) ?_
  simp only [Act.put, List.setIfInBounds_toArray, List.set_cons_zero, List.set_cons_succ]
  refine wpL_take 11 89 (.pointer (some ⟨w.heap.size, 2, none⟩)) [] rfl rfl (by kernel_rfl) (by decide) (by kernel_rfl) (by kernel_rfl) (by kernel_rfl) (fun _ _ _ h => h) HSd.out (by rfl) (fun W hW => by obtain ⟨y0, y1, y2, y3⟩ := four_cells hW; go_simp) ?_
  simp only [Act.put, List.setIfInBounds_toArray, List.set_cons_zero, List.set_cons_succ]
  refine wpL_take 12 90 (i64 x.fst) [] rfl rfl (by kernel_rfl) (by decide) (by kernel_rfl) (by kernel_rfl) (by kernel_rfl) (fun _ _ _ h => h) HSd.out (by rfl) (fun W hW => by obtain ⟨y0, y1, y2, y3⟩ := four_cells hW; go_simp) ?_
  simp only [Act.put, List.setIfInBounds_toArray, List.set_cons_zero, List.set_cons_succ]
  refine wpL_take 13 91 (.pointer (some ⟨w.heap.size, 3, none⟩)) [] rfl rfl (by kernel_rfl) (by decide) (by kernel_rfl) (by kernel_rfl) (by kernel_rfl) (fun _ _ _ h => h) HSd.out (by rfl) (fun W hW => by obtain ⟨y0, y1, y2, y3⟩ := four_cells hW; go_simp) ?_
  simp only [Act.put, List.setIfInBounds_toArray, List.set_cons_zero, List.set_cons_succ]
  refine wpL_take 14 92 (i64 x.n) [] rfl rfl (by kernel_rfl) (by decide) (by kernel_rfl) (by kernel_rfl) (by kernel_rfl) (fun _ _ _ h => h) HSd.out (by rfl) (fun W hW => by obtain ⟨y0, y1, y2, y3⟩ := four_cells hW; go_simp) ?_
  simp only [Act.put, List.setIfInBounds_toArray, List.set_cons_zero, List.set_cons_succ]
  refine wpL_one 7 rfl (by kernel_rfl) (by rfl) (fun K hK => ?_)
  go_simp
  refine D1.out.mono ?_
  rintro e w2 ⟨rfl, hT2, hO2⟩
  have HT2 := hid hT2
  have HR2 := hid (rt_touch HVd.out.rt HVd.out.lt hO2)
  have HF2 : Hid (Fr t [67, 29, 58] w w2) := HFd.out.trans (fr_t HVd.out.tb hO2)
  have HX2 : Hid (w2.heap[w.heap.size]? = some (spO x)) := (hO2.block _ (blk_lt HSd.out) (by have := HLT.out; omega)).trans HSd.out
  have D2 := hid (HC2.out w2 HR2.out)
  clear hT2 hO2 D1
  have HS2 : Hid ((fun W : World => W.heap[w.heap.size]? = some (spO x)) w2) := HX2.out
  go_simp
  refine hK.out _ _ (fun _ => HS2.out) ?_
  clear hK K
  refine wpL_one 15 rfl (by kernel_rfl) (by rfl) (fun K hK => ?_)
  go_simp
  refine D2.out.mono ?_
  rintro e w3 ⟨rfl, hR3, hf3⟩
  have HB3 : Hid (BsX w3 t b r) := ⟨L2, HG.out, tb_fr2 HT2.out hf3, hR3, HVd.out.lt⟩
  have HF3 : Hid (Fr t [67, 29, 58] w w3) := HF2.out.trans (fr_r hf3 (Nat.le_of_lt HVd.out.lt))
  have HX3 : Hid (w3.heap[w.heap.size]? = some (spO x)) := hf3.kept _ _ HX2.out rfl
  clear hR3 hf3 D2
  have HS3 : Hid ((fun W : World => W.heap[w.heap.size]? = some (spO x)) w3) := HX3.out
  go_simp
  refine hK.out _ _ (fun _ => HS3.out) ?_
  clear hK K
  refine wpL_take 16 94 (.bool true) [] rfl rfl (by kernel_rfl) (by decide) (by kernel_rfl) (by kernel_rfl) (by kernel_rfl) (fun _ _ _ h => h) HS3.out (by rfl) (fun W hW => by obtain ⟨y0, y1, y2, y3⟩ := four_cells hW; go_simp) ?_
  simp only [Act.put, List.setIfInBounds_toArray, List.set_cons_zero, List.set_cons_succ]
  refine wpL_one 17 rfl (by kernel_rfl) (by rfl) (fun K hK => ?_)
  go_simp
  refine hK.out _ _ (fun h => absurd rfl h) ?_
  clear hK K
  refine wpL_done (by kernel_rfl) ?_
  refine NoPanic.normal ?_
  go_wp2_with fail
  go_ret
  exact ⟨rfl, HB3.out, HF3.out⟩
set_option maxRecDepth 100000 in
set_option maxHeartbeats 3200000 in
theorem does6 (w : World) (t b r : Nat) (L : List Sp) (x : Stp) (h : Bs w t b r L) (hk : x.what = 6) : Calls Try.prog 10 #[pq t, pq r, x.v] w fun e w' => e = .returned (.bool true) ∧ BsX w' t b r ∧ Fr t [67, 29, 58] w w' := by
  have z0 : (x.what == 0) = false := by simp only [beq_eq_false_iff_ne, ne_eq]; omega
  have z1 : (x.what == 1) = false := by simp only [beq_eq_false_iff_ne, ne_eq]; omega
  have z2 : (x.what == 2) = false := by simp only [beq_eq_false_iff_ne, ne_eq]; omega
  have z3 : (x.what == 3) = false := by simp only [beq_eq_false_iff_ne, ne_eq]; omega
  have z4 : (x.what == 4) = false := by simp only [beq_eq_false_iff_ne, ne_eq]; omega
  have z5 : (x.what == 5) = false := by simp only [beq_eq_false_iff_ne, ne_eq]; omega
  have z6 : (x.what == 6) = true := by simp only [beq_iff_eq]; omega
  clear hk
  have HV : Hid (Bs (w.alloc (spO x)) t b r L) := h.below (below_one w _)
  have HX : Hid ((w.alloc (spO x)).heap[w.heap.size]? = some (spO x)) := heap_last w _
  have HFV : Hid (Fr t [67, 29, 58] w (w.alloc (spO x))) := Fr.of_below _ (below_one w _) h.lob
  have HLT : Hid (t < w.heap.size) := h.tb.lt
  obtain ⟨E, L2, hg, hc1, hc2⟩ := fork_two t b r L h.gs x.pid x.n
  clear h
  have HG := hid hg
  have HVd := hid HV.out.drew
  have HFd : Hid (Fr t [67, 29, 58] w (w.alloc (spO x)).drew) := HFV.out.drewN 1
  have D1 := hid (hc1 (w.alloc (spO x)).drew HVd.out.tb)
  have HC2 := hid hc2
  clear hg hc1 hc2
  go_enter Try.func10, Try.ntmps10
  go_upto_region 16 with fail
  have HSd : Hid ((fun W : World => W.heap[w.heap.size]? = some (spO x)) (w.alloc (spO x)).drew) := HX.out
  refine wp_region_noPanic ?_
  refine wp_region_last (fun W : World => W.heap[w.heap.size]? = some (spO x)) 13 (by kernel_rfl) ?_
  refine wpL_take 0 97 (pq t) [] rfl rfl (by kernel_rfl) (by decide) (by kernel_rfl) (by kernel_rfl) (by kernel_rfl) (fun _ _ _ h => h) HSd.out (by rfl) (fun W hW => by obtain ⟨y0, y1, y2, y3⟩ := four_cells hW; go_simp) ?_
  simp only [Act.put, List.setIfInBounds_toArray, List.set_cons_zero, List.set_cons_succ]
  refine wpL_take 1 98 (.pointer (some ⟨w.heap.size, 1, none⟩)) [] rfl rfl (by kernel_rfl) (by decide) (by kernel_rfl) (by kernel_rfl) (by kernel_rfl) (fun _ _ _ h => h) HSd.out (by rfl) (fun W hW => by obtain ⟨y0, y1, y2, y3⟩ := four_cells hW; go_simp) ?_
  simp only [Act.put, List.setIfInBounds_toArray, List.set_cons_zero, List.set_cons_succ]
  refine wpL_take 2 99 (i64 x.pid) [] rfl rfl (by kernel_rfl) (by decide) (by kernel_rfl) (by kernel_rfl) (by kernel_rfl) (fun _ _ _ h => h) HSd.out (by rfl) (fun W hW => by obtain ⟨y0, y1, y2, y3⟩ := four_cells hW; go_simp) ?_
  simp only [Act.put, List.setIfInBounds_toArray, List.set_cons_zero, List.set_cons_succ]
  refine wpL_take 3 100 (.pointer (some ⟨w.heap.size, 3, none⟩)) [] rfl rfl (by kernel_rfl) (by decide) (by kernel_rfl) (by kernel_rfl) (by kernel_rfl) (fun _ _ _ h => h) HSd.out (by rfl) (fun W hW => by obtain ⟨y0, y1, y2, y3⟩ := four_cells hW; go_simp) ?_
  simp only [Act.put, List.setIfInBounds_toArray, List.set_cons_zero, List.set_cons_succ]
  refine wpL_take 4 101 (i64 x.n) [] rfl rfl (by kernel_rfl) (by decide) (by kernel_rfl) (by kernel_rfl) (by kernel_rfl) (fun _ _ _ h => h) HSd.out (by rfl) (fun W hW => by obtain ⟨y0, y1, y2, y3⟩ := four_cells hW; go_simp) ?_
  simp only [Act.put, List.setIfInBounds_toArray, List.set_cons_zero, List.set_cons_succ]
  refine wpL_take 6 103 (pq r) [] rfl rfl (by kernel_rfl) (by decide) (by kernel_rfl) (by kernel_rfl) (by kernel_rfl) (fun _ _ _ h => h) HSd.out (by rfl) (fun W hW => by obtain ⟨y0, y1, y2, y3⟩ := four_cells hW; go_simp) ?_
  simp only [Act.put, List.setIfInBounds_toArray, List.set_cons_zero, List.set_cons_succ]
  refine wpL_take 7 104 (.pointer (some ⟨w.heap.size, 1, none⟩)) [] rfl rfl (by kernel_rfl) (by decide) (by kernel_rfl) (by kernel_rfl) (by kernel_rfl) (fun _ _ _ h => h) HSd.out (by rfl) (fun W hW => by obtain ⟨y0, y1, y2, y3⟩ := four_cells hW; go_simp) ?_
  simp only [Act.put, List.setIfInBounds_toArray, List.set_cons_zero, List.set_cons_succ]
  refine wpL_take 8 105 (i64 x.pid) [] rfl rfl (by kernel_rfl) (by decide) (by kernel_rfl) (by kernel_rfl) (by kernel_rfl) (fun _ _ _ h => h) HSd.out (by rfl) (fun W hW => by obtain ⟨y0, y1, y2, y3⟩ := four_cells hW; go_simp) ?_
  simp only [Act.put, List.setIfInBounds_toArray, List.set_cons_zero, List.set_cons_succ]
  refine wpL_take 9 106 (.pointer (some ⟨w.heap.size, 3, none⟩)) [] rfl rfl (by kernel_rfl) (by decide) (by kernel_rfl) (by kernel_rfl) (by kernel_rfl) (fun _ _ _ h => h) HSd.out (by rfl) (fun W hW => by obtain ⟨y0, y1, y2, y3⟩ := four_cells hW; go_simp) ?_
  simp only [Act.put, List.setIfInBounds_toArray, List.set_cons_zero, List.set_cons_succ]
  refine wpL_take 10 107 (i64 x.n) [] rfl rfl (by kernel_rfl) (by decide) (by kernel_rfl) (by kernel_rfl) (by kernel_rfl) (fun _ _ _ h => h) HSd.out (by rfl) (fun W hW => by obtain ⟨y0, y1, y2, y3⟩ := four_cells hW; go_simp) ?_
  simp only [Act.put, List.setIfInBounds_toArray, List.set_cons_zero, List.set_cons_succ]
  refine wpL_one 5 rfl (by kernel_rfl) (by rfl) (fun K hK => ?_)
  go_simp
  refine D1.out.mono ?_
  rintro e w2 ⟨rfl, hT2, hO2⟩
  have HT2 := hid hT2
  have HR2 := hid (rt_touch HVd.out.rt HVd.out.lt hO2)
  have HF2 : Hid (Fr t [67, 29, 58] w w2) := HFd.out.trans (fr_t HVd.out.tb hO2)
  have HX2 : Hid (w2.heap[w.heap.size]? = some (spO x)) := (hO2.block _ (blk_lt HSd.out) (by have := HLT.out; omega)).trans HSd.out
  have D2 := hid (HC2.out w2 HR2.out)
  clear hT2 hO2 D1
  have HS2 : Hid ((fun W : World => W.heap[w.heap.size]? = some (spO x)) w2) := HX2.out
  go_simp
  refine hK.out _ _ (fun _ => HS2.out) ?_
  clear hK K
  refine wpL_one 11 rfl (by kernel_rfl) (by rfl) (fun K hK => ?_)
  go_simp
  refine D2.out.mono ?_
  rintro e w3 ⟨rfl, hR3, hf3⟩
  have HB3 : Hid (BsX w3 t b r) := ⟨L2, HG.out, tb_fr2 HT2.out hf3, hR3, HVd.out.lt⟩
  have HF3 : Hid (Fr t [67, 29, 58] w w3) := HF2.out.trans (fr_r hf3 (Nat.le_of_lt HVd.out.lt))
  have HX3 : Hid (w3.heap[w.heap.size]? = some (spO x)) := hf3.kept _ _ HX2.out rfl
  clear hR3 hf3 D2
  have HS3 : Hid ((fun W : World => W.heap[w.heap.size]? = some (spO x)) w3) := HX3.out
  go_simp
  refine hK.out _ _ (fun _ => HS3.out) ?_
  clear hK K
  refine wpL_take 12 109 (.bool true) [] rfl rfl (by kernel_rfl) (by decide) (by kernel_rfl) (by kernel_rfl) (by kernel_rfl) (fun _ _ _ h => h) HS3.out (by rfl) (fun W hW => by obtain ⟨y0, y1, y2, y3⟩ := four_cells hW; go_simp) ?_
  simp only [Act.put, List.setIfInBounds_toArray, List.set_cons_zero, List.set_cons_succ]
  refine wpL_one 13 rfl (by kernel_rfl) (by rfl) (fun K hK => ?_)
  go_simp
  refine hK.out _ _ (fun h => absurd rfl h) ?_
  clear hK K
  refine wpL_done (by kernel_rfl) ?_
  refine NoPanic.normal ?_
  go_wp2_with fail
  go_ret
  exact ⟨rfl, HB3.out, HF3.out⟩
set_option maxRecDepth 100000 in
set_option maxHeartbeats 3200000 in
theorem does7 (w : World) (t b r : Nat) (L : List Sp) (x : Stp) (h : Bs w t b r L) (hk : x.what = 7) : Calls Try.prog 10 #[pq t, pq r, x.v] w fun e w' => e = .returned (.bool true) ∧ BsX w' t b r ∧ Fr t [67, 29, 58] w w' := by
  have z0 : (x.what == 0) = false := by simp only [beq_eq_false_iff_ne, ne_eq]; omega
  have z1 : (x.what == 1) = false := by simp only [beq_eq_false_iff_ne, ne_eq]; omega
  have z2 : (x.what == 2) = false := by simp only [beq_eq_false_iff_ne, ne_eq]; omega
  have z3 : (x.what == 3) = false := by simp only [beq_eq_false_iff_ne, ne_eq]; omega
  have z4 : (x.what == 4) = false := by simp only [beq_eq_false_iff_ne, ne_eq]; omega
  have z5 : (x.what == 5) = false := by simp only [beq_eq_false_iff_ne, ne_eq]; omega
  have z6 : (x.what == 6) = false := by simp only [beq_eq_false_iff_ne, ne_eq]; omega
  have z7 : (x.what == 7) = true := by simp only [beq_iff_eq]; omega
  clear hk
  have HV : Hid (Bs (w.alloc (spO x)) t b r L) := h.below (below_one w _)
  have HX : Hid ((w.alloc (spO x)).heap[w.heap.size]? = some (spO x)) := heap_last w _
  have HFV : Hid (Fr t [67, 29, 58] w (w.alloc (spO x))) := Fr.of_below _ (below_one w _) h.lob
  have HLT : Hid (t < w.heap.size) := h.tb.lt
  obtain ⟨E, L2, hg, hc1, hc2⟩ := drop_two t b r L h.gs x.pid
  clear h
  have HG := hid hg
  have HVd := hid HV.out.drew
  have HFd : Hid (Fr t [67, 29, 58] w (w.alloc (spO x)).drew) := HFV.out.drewN 1
  have D1 := hid (hc1 (w.alloc (spO x)).drew HVd.out.tb)
  have HC2 := hid hc2
  clear hg hc1 hc2
  go_enter Try.func10, Try.ntmps10
  go_upto_region 18 with fail
  have HSd : Hid ((fun W : World => W.heap[w.heap.size]? = some (spO x)) (w.alloc (spO x)).drew) := HX.out
  refine wp_region_noPanic ?_
  refine wp_region_last (fun W : World => W.heap[w.heap.size]? = some (spO x)) 9 (by kernel_rfl) ?_
  refine wpL_take 0 112 (pq t) [] rfl rfl (by kernel_rfl) (by decide) (by kernel_rfl) (by kernel_rfl) (by kernel_rfl) (fun _ _ _ h => h) HSd.out (by rfl) (fun W hW => by obtain ⟨y0, y1, y2, y3⟩ := four_cells hW; go_simp) ?_
  simp only [Act.put, List.setIfInBounds_toArray, List.set_cons_zero, List.set_cons_succ]
  refine wpL_take 1 113 (.pointer (some ⟨w.heap.size, 1, none⟩)) [] rfl rfl (by kernel_rfl) (by decide) (by kernel_rfl) (by kernel_rfl) (by kernel_rfl) (fun _ _ _ h => h) HSd.out (by rfl) (fun W hW => by obtain ⟨y0, y1, y2, y3⟩ := four_cells hW; go_simp) ?_
  simp only [Act.put, List.setIfInBounds_toArray, List.set_cons_zero, List.set_cons_succ]
  refine wpL_take 2 114 (i64 x.pid) [] rfl rfl (by kernel_rfl) (by decide) (by kernel_rfl) (by kernel_rfl) (by kernel_rfl) (fun _ _ _ h => h) HSd.out (by rfl) (fun W hW => by obtain ⟨y0, y1, y2, y3⟩ := four_cells hW; go_simp) ?_
  simp only [Act.put, List.setIfInBounds_toArray, List.set_cons_zero, List.set_cons_succ]
  refine wpL_take 4 116 (pq r) [] rfl rfl (by kernel_rfl) (by decide) (by kernel_rfl) (by kernel_rfl) (by kernel_rfl) (fun _ _ _ h => h) HSd.out (by rfl) (fun W hW => by obtain ⟨y0, y1, y2, y3⟩ := four_cells hW; go_simp) ?_
  simp only [Act.put, List.setIfInBounds_toArray, List.set_cons_zero, List.set_cons_succ]
  refine wpL_take 5 117 (.pointer (some ⟨w.heap.size, 1, none⟩)) [] rfl rfl (by kernel_rfl) (by decide) (by kernel_rfl) (by kernel_rfl) (by kernel_rfl) (fun _ _ _ h => h) HSd.out (by rfl) (fun W hW => by obtain ⟨y0, y1, y2, y3⟩ := four_cells hW; go_simp) ?_
  simp only [Act.put, List.setIfInBounds_toArray, List.set_cons_zero, List.set_cons_succ]
  refine wpL_take 6 118 (i64 x.pid) [] rfl rfl (by kernel_rfl) (by decide) (by kernel_rfl) (by kernel_rfl) (by kernel_rfl) (fun _ _ _ h => h) HSd.out (by rfl) (fun W hW => by obtain ⟨y0, y1, y2, y3⟩ := four_cells hW; go_simp) ?_
  simp only [Act.put, List.setIfInBounds_toArray, List.set_cons_zero, List.set_cons_succ]
  refine wpL_one 3 rfl (by kernel_rfl) (by rfl) (fun K hK => ?_)
  go_simp
  refine D1.out.mono ?_
  rintro e w2 ⟨rfl, hT2, hO2⟩
  have HT2 := hid hT2
  have HR2 := hid (rt_touch HVd.out.rt HVd.out.lt hO2)
  have HF2 : Hid (Fr t [67, 29, 58] w w2) := HFd.out.trans (fr_t HVd.out.tb hO2)
  have HX2 : Hid (w2.heap[w.heap.size]? = some (spO x)) := (hO2.block _ (blk_lt HSd.out) (by have := HLT.out; omega)).trans HSd.out
  have D2 := hid (HC2.out w2 HR2.out)
  clear hT2 hO2 D1
  have HS2 : Hid ((fun W : World => W.heap[w.heap.size]? = some (spO x)) w2) := HX2.out
  go_simp
  refine hK.out _ _ (fun _ => HS2.out) ?_
  clear hK K
  refine wpL_one 7 rfl (by kernel_rfl) (by rfl) (fun K hK => ?_)
  go_simp
  refine D2.out.mono ?_
  rintro e w3 ⟨rfl, hR3, hf3⟩
  have HB3 : Hid (BsX w3 t b r) := ⟨L2, HG.out, tb_fr2 HT2.out hf3, hR3, HVd.out.lt⟩
  have HF3 : Hid (Fr t [67, 29, 58] w w3) := HF2.out.trans (fr_r hf3 (Nat.le_of_lt HVd.out.lt))
  have HX3 : Hid (w3.heap[w.heap.size]? = some (spO x)) := hf3.kept _ _ HX2.out rfl
  clear hR3 hf3 D2
  have HS3 : Hid ((fun W : World => W.heap[w.heap.size]? = some (spO x)) w3) := HX3.out
  go_simp
  refine hK.out _ _ (fun _ => HS3.out) ?_
  clear hK K
  refine wpL_take 8 120 (.bool true) [] rfl rfl (by kernel_rfl) (by decide) (by kernel_rfl) (by kernel_rfl) (by kernel_rfl) (fun _ _ _ h => h) HS3.out (by rfl) (fun W hW => by obtain ⟨y0, y1, y2, y3⟩ := four_cells hW; go_simp) ?_
  simp only [Act.put, List.setIfInBounds_toArray, List.set_cons_zero, List.set_cons_succ]
  refine wpL_one 9 rfl (by kernel_rfl) (by rfl) (fun K hK => ?_)
  go_simp
  refine hK.out _ _ (fun h => absurd rfl h) ?_
  clear hK K
  refine wpL_done (by kernel_rfl) ?_
  refine NoPanic.normal ?_
  go_wp2_with fail
  go_ret
  exact ⟨rfl, HB3.out, HF3.out⟩
set_option maxRecDepth 100000 in
set_option maxHeartbeats 3200000 in
theorem does8 (w : World) (t b r : Nat) (L : List Sp) (x : Stp) (h : Bs w t b r L) (hk : ¬(0 ≤ x.what ∧ x.what ≤ 7)) : Calls Try.prog 10 #[pq t, pq r, x.v] w fun e w' => e = .returned (.bool true) ∧ BsX w' t b r ∧ Fr t [67, 29, 58] w w' := by
  have z0 : (x.what == 0) = false := by simp only [beq_eq_false_iff_ne, ne_eq]; omega
  have z1 : (x.what == 1) = false := by simp only [beq_eq_false_iff_ne, ne_eq]; omega
  have z2 : (x.what == 2) = false := by simp only [beq_eq_false_iff_ne, ne_eq]; omega
  have z3 : (x.what == 3) = false := by simp only [beq_eq_false_iff_ne, ne_eq]; omega
  have z4 : (x.what == 4) = false := by simp only [beq_eq_false_iff_ne, ne_eq]; omega
  have z5 : (x.what == 5) = false := by simp only [beq_eq_false_iff_ne, ne_eq]; omega
  have z6 : (x.what == 6) = false := by simp only [beq_eq_false_iff_ne, ne_eq]; omega
  have z7 : (x.what == 7) = false := by simp only [beq_eq_false_iff_ne, ne_eq]; omega
  clear hk
  have HV : Hid (Bs (w.alloc (spO x)) t b r L) := h.below (below_one w _)
  have HX : Hid ((w.alloc (spO x)).heap[w.heap.size]? = some (spO x)) := heap_last w _
  have HFV : Hid (Fr t [67, 29, 58] w (w.alloc (spO x))) := Fr.of_below _ (below_one w _) h.lob
  have HVd := hid HV.out.drew
  have HFd : Hid (Fr t [67, 29, 58] w (w.alloc (spO x)).drew) := HFV.out.drewN 1
  have hG := h.gs
  have HM := hid fun W (hW : Bs W t b r L) (wt : Bool) => smay_ok W t L x.pid x.fst wt hW.tb hG
  have HN := hid fun W (hW : Bs W t b r L) (wt : Bool) => rmay_ok x.pid x.fst wt hW.rt hG
  have C1 := hid (HM.out _ HVd.out false)
  have C2 := hid (HN.out _ HVd.out false)
  generalize mayB L x.pid x.fst false = T1 at C1 C2
  have C3 := hid fun W (hW : Bs W t b r L) => HM.out W hW true
  have C4 := hid fun W (hW : Bs W t b r L) => HN.out W hW true
  generalize mayB L x.pid x.fst true = T2 at C3 C4
  clear h HM HN hG
  go_enter Try.func10, Try.ntmps10
  go_upto_region 19 with fail
  have HSd : Hid ((fun W : World => W.heap[w.heap.size]? = some (spO x)) (w.alloc (spO x)).drew) := HX.out
  refine wp_region_noPanic ?_
  refine wp_region_last (fun W : World => W.heap[w.heap.size]? = some (spO x)) 28 (by kernel_rfl) ?_
  refine wpL_take 0 121 (pq t) [] rfl rfl (by kernel_rfl) (by decide) (by kernel_rfl) (by kernel_rfl) (by kernel_rfl) (fun _ _ _ h => h) HSd.out (by rfl) (fun W hW => by obtain ⟨y0, y1, y2, y3⟩ := four_cells hW; go_simp) ?_
  simp only [Act.put, List.setIfInBounds_toArray, List.set_cons_zero, List.set_cons_succ]
  refine wpL_take 1 122 (.pointer (some ⟨w.heap.size, 1, none⟩)) [] rfl rfl (by kernel_rfl) (by decide) (by kernel_rfl) (by kernel_rfl) (by kernel_rfl) (fun _ _ _ h => h) HSd.out (by rfl) (fun W hW => by obtain ⟨y0, y1, y2, y3⟩ := four_cells hW; go_simp) ?_
  simp only [Act.put, List.setIfInBounds_toArray, List.set_cons_zero, List.set_cons_succ]
  refine wpL_take 2 123 (i64 x.pid) [] rfl rfl (by kernel_rfl) (by decide) (by kernel_rfl) (by kernel_rfl) (by kernel_rfl) (fun _ _ _ h => h) HSd.out (by rfl) (fun W hW => by obtain ⟨y0, y1, y2, y3⟩ := four_cells hW; go_simp) ?_
  simp only [Act.put, List.setIfInBounds_toArray, List.set_cons_zero, List.set_cons_succ]
  refine wpL_take 3 124 (.pointer (some ⟨w.heap.size, 2, none⟩)) [] rfl rfl (by kernel_rfl) (by decide) (by kernel_rfl) (by kernel_rfl) (by kernel_rfl) (fun _ _ _ h => h) HSd.out (by rfl) (fun W hW => by obtain ⟨y0, y1, y2, y3⟩ := four_cells hW; go_simp) ?_
  simp only [Act.put, List.setIfInBounds_toArray, List.set_cons_zero, List.set_cons_succ]
  refine wpL_take 4 125 (i64 x.fst) [] rfl rfl (by kernel_rfl) (by decide) (by kernel_rfl) (by kernel_rfl) (by kernel_rfl) (fun _ _ _ h => h) HSd.out (by rfl) (fun W hW => by obtain ⟨y0, y1, y2, y3⟩ := four_cells hW; go_simp) ?_
  simp only [Act.put, List.setIfInBounds_toArray, List.set_cons_zero, List.set_cons_succ]
  refine wpL_take 6 127 (pq r) [] rfl rfl (by kernel_rfl) (by decide) (by kernel_rfl) (by kernel_rfl) (by kernel_rfl) (fun _ _ _ h => h) HSd.out (by rfl) (fun W hW => by obtain ⟨y0, y1, y2, y3⟩ := four_cells hW; go_simp) ?_
  simp only [Act.put, List.setIfInBounds_toArray, List.set_cons_zero, List.set_cons_succ]
  refine wpL_take 7 128 (.pointer (some ⟨w.heap.size, 1, none⟩)) [] rfl rfl (by kernel_rfl) (by decide) (by kernel_rfl) (by kernel_rfl) (by kernel_rfl) (fun _ _ _ h => h) HSd.out (by rfl) (fun W hW => by obtain ⟨y0, y1, y2, y3⟩ := four_cells hW; go_simp) ?_
  simp only [Act.put, List.setIfInBounds_toArray, List.set_cons_zero, List.set_cons_succ]
  refine wpL_take 8 129 (i64 x.pid) [] rfl rfl (by kernel_rfl) (by decide) (by kernel_rfl) (by kernel_rfl) (by kernel_rfl) (fun _ _ _ h => h) HSd.out (by rfl) (fun W hW => by obtain ⟨y0, y1, y2, y3⟩ := four_cells hW; go_simp) ?_
  simp only [Act.put, List.setIfInBounds_toArray, List.set_cons_zero, List.set_cons_succ]
  refine wpL_take 9 130 (.pointer (some ⟨w.heap.size, 2, none⟩)) [] rfl rfl (by kernel_rfl) (by decide) (by kernel_rfl) (by kernel_rfl) (by kernel_rfl) (fun _ _ _ h => h) HSd.out (by rfl) (fun W hW => by obtain ⟨y0, y1, y2, y3⟩ := four_cells hW; go_simp) ?_
  simp only [Act.put, List.setIfInBounds_toArray, List.set_cons_zero, List.set_cons_succ]
  refine wpL_take 10 131 (i64 x.fst) [] rfl rfl (by kernel_rfl) (by decide) (by kernel_rfl) (by kernel_rfl) (by kernel_rfl) (fun _ _ _ h => h) HSd.out (by rfl) (fun W hW => by obtain ⟨y0, y1, y2, y3⟩ := four_cells hW; go_simp) ?_
  simp only [Act.put, List.setIfInBounds_toArray, List.set_cons_zero, List.set_cons_succ]
  refine wpL_one 5 rfl (by kernel_rfl) (by rfl) (fun K hK => ?_)
  go_simp
  refine C1.out.mono ?_
  rintro e q1 ⟨rfl, hv⟩
  replace hv := hv.symm
  subst hv
  clear C1
  go_simp
  refine hK.out _ _ (fun _ => HSd.out) ?_
  clear hK K
  refine wpL_one 11 rfl (by kernel_rfl) (by rfl) (fun K hK => ?_)
  go_simp
  refine C2.out.mono ?_
  rintro e q2 ⟨rfl, hb2⟩
  have HV2 := hid (HVd.out.below hb2)
  have HF2 : Hid (Fr t [67, 29, 58] w q2) := HFd.out.trans (Fr.of_below _ hb2 HVd.out.lob)
  have HS2 : Hid ((fun W : World => W.heap[w.heap.size]? = some (spO x)) q2) := blk_below HSd.out hb2
  have C5 := hid (C3.out q2 HV2.out)
  have C6 := hid (C4.out q2 HV2.out)
  clear hb2 C2 C3 C4
  go_simp
  refine hK.out _ _ (fun _ => HS2.out) ?_
  clear hK K
  refine wpL_take 12 133 (.bool true) [] rfl rfl (by kernel_rfl) (by decide) (by kernel_rfl) (by kernel_rfl) (by kernel_rfl) (fun _ _ _ h => h) HS2.out (by rfl) (fun W hW => by obtain ⟨y0, y1, y2, y3⟩ := four_cells hW; go_simp) ?_
  simp only [Act.put, List.setIfInBounds_toArray, List.set_cons_zero, List.set_cons_succ]
  refine wpL_take 13 134 (.bool true) [] rfl rfl (by kernel_rfl) (by decide) (by kernel_rfl) (by kernel_rfl) (by kernel_rfl) (fun _ _ _ h => h) HS2.out (by rfl) (fun W hW => by obtain ⟨y0, y1, y2, y3⟩ := four_cells hW; go_simp) ?_
  simp only [Act.put, List.setIfInBounds_toArray, List.set_cons_zero, List.set_cons_succ]
  refine wpL_take 14 135 (pq t) [] rfl rfl (by kernel_rfl) (by decide) (by kernel_rfl) (by kernel_rfl) (by kernel_rfl) (fun _ _ _ h => h) HS2.out (by rfl) (fun W hW => by obtain ⟨y0, y1, y2, y3⟩ := four_cells hW; go_simp) ?_
  simp only [Act.put, List.setIfInBounds_toArray, List.set_cons_zero, List.set_cons_succ]
  refine wpL_take 15 136 (.pointer (some ⟨w.heap.size, 1, none⟩)) [] rfl rfl (by kernel_rfl) (by decide) (by kernel_rfl) (by kernel_rfl) (by kernel_rfl) (fun _ _ _ h => h) HS2.out (by rfl) (fun W hW => by obtain ⟨y0, y1, y2, y3⟩ := four_cells hW; go_simp) ?_
  simp only [Act.put, List.setIfInBounds_toArray, List.set_cons_zero, List.set_cons_succ]
  refine wpL_take 16 137 (i64 x.pid) [] rfl rfl (by kernel_rfl) (by decide) (by kernel_rfl) (by kernel_rfl) (by kernel_rfl) (fun _ _ _ h => h) HS2.out (by rfl) (fun W hW => by obtain ⟨y0, y1, y2, y3⟩ := four_cells hW; go_simp) ?_
  simp only [Act.put, List.setIfInBounds_toArray, List.set_cons_zero, List.set_cons_succ]
  refine wpL_take 17 138 (.pointer (some ⟨w.heap.size, 2, none⟩)) [] rfl rfl (by kernel_rfl) (by decide) (by kernel_rfl) (by kernel_rfl) (by kernel_rfl) (fun _ _ _ h => h) HS2.out (by rfl) (fun W hW => by obtain ⟨y0, y1, y2, y3⟩ := four_cells hW; go_simp) ?_
  simp only [Act.put, List.setIfInBounds_toArray, List.set_cons_zero, List.set_cons_succ]
  refine wpL_take 18 139 (i64 x.fst) [] rfl rfl (by kernel_rfl) (by decide) (by kernel_rfl) (by kernel_rfl) (by kernel_rfl) (fun _ _ _ h => h) HS2.out (by rfl) (fun W hW => by obtain ⟨y0, y1, y2, y3⟩ := four_cells hW; go_simp) ?_
  simp only [Act.put, List.setIfInBounds_toArray, List.set_cons_zero, List.set_cons_succ]
  refine wpL_take 20 141 (pq r) [] rfl rfl (by kernel_rfl) (by decide) (by kernel_rfl) (by kernel_rfl) (by kernel_rfl) (fun _ _ _ h => h) HS2.out (by rfl) (fun W hW => by obtain ⟨y0, y1, y2, y3⟩ := four_cells hW; go_simp) ?_
  simp only [Act.put, List.setIfInBounds_toArray, List.set_cons_zero, List.set_cons_succ]
  refine wpL_take 21 142 (.pointer (some ⟨w.heap.size, 1, none⟩)) [] rfl rfl (by kernel_rfl) (by decide) (by kernel_rfl) (by kernel_rfl) (by kernel_rfl) (fun _ _ _ h => h) HS2.out (by rfl) (fun W hW => by obtain ⟨y0, y1, y2, y3⟩ := four_cells hW; go_simp) ?_
  simp only [Act.put, List.setIfInBounds_toArray, List.set_cons_zero, List.set_cons_succ]
  refine wpL_take 22 143 (i64 x.pid) [] rfl rfl (by kernel_rfl) (by decide) (by kernel_rfl) (by kernel_rfl) (by kernel_rfl) (fun _ _ _ h => h) HS2.out (by rfl) (fun W hW => by obtain ⟨y0, y1, y2, y3⟩ := four_cells hW; go_simp) ?_
  simp only [Act.put, List.setIfInBounds_toArray, List.set_cons_zero, List.set_cons_succ]
  refine wpL_take 23 144 (.pointer (some ⟨w.heap.size, 2, none⟩)) [] rfl rfl (by kernel_rfl) (by decide) (by kernel_rfl) (by kernel_rfl) (by kernel_rfl) (fun _ _ _ h => h) HS2.out (by rfl) (fun W hW => by obtain ⟨y0, y1, y2, y3⟩ := four_cells hW; go_simp) ?_
  simp only [Act.put, List.setIfInBounds_toArray, List.set_cons_zero, List.set_cons_succ]
  refine wpL_take 24 145 (i64 x.fst) [] rfl rfl (by kernel_rfl) (by decide) (by kernel_rfl) (by kernel_rfl) (by kernel_rfl) (fun _ _ _ h => h) HS2.out (by rfl) (fun W hW => by obtain ⟨y0, y1, y2, y3⟩ := four_cells hW; go_simp) ?_
  simp only [Act.put, List.setIfInBounds_toArray, List.set_cons_zero, List.set_cons_succ]
  refine wpL_one 19 rfl (by kernel_rfl) (by rfl) (fun K hK => ?_)
  go_simp
  refine C5.out.mono ?_
  rintro e q3 ⟨rfl, hv⟩
  replace hv := hv.symm
  subst hv
  clear C5
  go_simp
  refine hK.out _ _ (fun _ => HS2.out) ?_
  clear hK K
  refine wpL_one 25 rfl (by kernel_rfl) (by rfl) (fun K hK => ?_)
  go_simp
  refine C6.out.mono ?_
  rintro e q4 ⟨rfl, hb2⟩
  have HV3 := hid (HV2.out.below hb2)
  have HF3 : Hid (Fr t [67, 29, 58] w q4) := HF2.out.trans (Fr.of_below _ hb2 HV2.out.lob)
  have HS3 : Hid ((fun W : World => W.heap[w.heap.size]? = some (spO x)) q4) := blk_below HS2.out hb2
  have HB3 : Hid (BsX q4 t b r) := ⟨L, HV3.out⟩
  clear hb2 C6
  go_simp
  refine hK.out _ _ (fun _ => HS3.out) ?_
  clear hK K
  refine wpL_take 26 147 (.bool true) [] rfl rfl (by kernel_rfl) (by decide) (by kernel_rfl) (by kernel_rfl) (by kernel_rfl) (fun _ _ _ h => h) HS3.out (by rfl) (fun W hW => by obtain ⟨y0, y1, y2, y3⟩ := four_cells hW; go_simp) ?_
  simp only [Act.put, List.setIfInBounds_toArray, List.set_cons_zero, List.set_cons_succ]
  refine wpL_take 27 148 (.bool true) [] rfl rfl (by kernel_rfl) (by decide) (by kernel_rfl) (by kernel_rfl) (by kernel_rfl) (fun _ _ _ h => h) HS3.out (by rfl) (fun W hW => by obtain ⟨y0, y1, y2, y3⟩ := four_cells hW; go_simp) ?_
  simp only [Act.put, List.setIfInBounds_toArray, List.set_cons_zero, List.set_cons_succ]
  refine wpL_one 28 rfl (by kernel_rfl) (by rfl) (fun K hK => ?_)
  go_simp
  refine hK.out _ _ (fun h => absurd rfl h) ?_
  clear hK K
  refine wpL_done (by kernel_rfl) ?_
  refine NoPanic.normal ?_
  go_wp2_with fail
  go_ret
  exact ⟨rfl, HB3.out, HF3.out⟩
theorem does_ok (w : World) (t b r : Nat) (x : Stp) (h : BsX w t b r) : Calls Try.prog 10 #[pq t, pq r, x.v] w fun e w' => e = .returned (.bool true) ∧ BsX w' t b r ∧ Fr t [67, 29, 58] w w' := by
  obtain ⟨L, h⟩ := h
  by_cases h0 : x.what = 0
  · exact does0 w t b r L x h h0
  by_cases h1 : x.what = 1
  · exact does1 w t b r L x h h1
  by_cases h2 : x.what = 2
  · exact does2 w t b r L x h h2
  by_cases h3 : x.what = 3
  · exact does3 w t b r L x h h3
  by_cases h4 : x.what = 4
  · exact does4 w t b r L x h h4
  by_cases h5 : x.what = 5
  · exact does5 w t b r L x h h5
  by_cases h6 : x.what = 6
  · exact does6 w t b r L x h h6
  by_cases h7 : x.what = 7
  · exact does7 w t b r L x h h7
  exact does8 w t b r L x h (by omega)
end Go.Proofs.Ytlkcpjefgelcoaa
