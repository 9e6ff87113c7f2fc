/- does: both sides do a step alike; no statement is proved in this text. -/
import Derived.Test.YtmebkpdijamdgaaSm
namespace Go.Proofs.Ytmebkpdijamdgaa
open Go.ChangeShapes Go.WideShapes Go.ChangeAt Go.RowKit Go.Deep
attribute [local go_sem ↓] Go.wp_at_zero Go.wp_at_succ

structure Bo (w : World) (b P r : Nat) (L : List Ar) : Prop where
  lb : Lb w b P L
  rb : Rb w b r L
  gd : Good L
theorem Bo.below {w w' : World} {b P r : Nat} {L : List Ar} (h : Bo w b P r L) (hb : Below w.heap.size w w') : Bo w' b P r L := ⟨h.lb.below hb, h.rb.below hb, h.gd⟩
theorem Bo.lob {w : World} {b P r : Nat} {L : List Ar} (h : Bo w b P r L) : b ≤ w.heap.size := h.lb.lob
theorem Bo.len {w : World} {b P r : Nat} {L : List Ar} (h : Bo w b P r L) : L.length ≤ 1000 := Nat.le_trans h.gd.len (by omega)
theorem fr_more {b : Nat} {w w' : World} (h : Fr b [54, 42] w w') : Fr b [54, 42, 29, 58] w w' := h.mono (fun o ho => by
  cases o with
  | cells C t f => simp only [keeps, Bool.not_eq_true', List.contains_eq_mem, decide_eq_false_iff_not, List.mem_cons, List.not_mem_nil, or_false, not_or] at ho ⊢; exact ⟨ho.1, ho.2.1⟩
  | map es c => simp only [keeps]; rfl
  | _ => rfl)
theorem fr_more2 {b : Nat} {w w' : World} (h : Fr b [29, 58] w w') : Fr b [54, 42, 29, 58] w w' := h.mono (fun o ho => by
  cases o with
  | cells C t f => simp only [keeps, Bool.not_eq_true', List.contains_eq_mem, decide_eq_false_iff_not, List.mem_cons, List.not_mem_nil, or_false, not_or] at ho ⊢; exact ⟨ho.2.2.1, ho.2.2.2⟩
  | map es c => simp only [keeps]; rfl
  | _ => rfl)
/-- Two calls, of the list and of the document's, that answer alike. -/
def Two (f g : Nat) (args : List Value) (L L' : List Ar) (e : Ending) : Prop := Good L' ∧ (∀ (W : World) (b P : Nat), Lb W b P L → Calls Try.prog f ((pq P :: args).toArray) W fun e' w' => e' = e ∧ Lb w' b P L' ∧ Fr b [54, 42] W w') ∧ (∀ (W : World) (b r : Nat), Rb W b r L → Calls Try.prog g ((pq r :: args).toArray) W fun e' w' => e' = e ∧ Rb w' b r L' ∧ Fr b [29, 58] W w')
theorem still {f : Nat} {args : Array Value} {W : World} {b P : Nat} {L : List Ar} {e : Ending} (hL : Lb W b P L) (h : Calls Try.prog f args W fun e' w' => e' = e ∧ Below W.heap.size W w') : Calls Try.prog f args W fun e' w' => e' = e ∧ Lb w' b P L ∧ Fr b [54, 42] W w' :=
  h.mono fun _ _ ⟨h1, h2⟩ => ⟨h1, hL.below h2, Fr.of_below _ h2 hL.lob⟩
theorem still2 {f : Nat} {args : Array Value} {W : World} {b r : Nat} {L : List Ar} {e : Ending} (hL : Rb W b r L) (h : Calls Try.prog f args W fun e' w' => e' = e ∧ Below W.heap.size W w') : Calls Try.prog f args W fun e' w' => e' = e ∧ Rb w' b r L ∧ Fr b [29, 58] W w' :=
  h.mono fun _ _ ⟨h1, h2⟩ => ⟨h1, hL.below h2, Fr.of_below _ h2 hL.lob⟩
theorem map_two {L : List Ar} (hg : Good L) (p n : Int) : ∃ I E L', Two 17 22 [i64 p, i64 n] L L' (.returned (.tuple #[i64 I, i64 E])) := by
  by_cases h : (1 ≤ p ∧ p ≤ 6) ∧ 1 ≤ n ∧ n ≤ 16
  · rcases map_dec L p n h.2.1 with ⟨k, hk⟩ | hk
    · exact ⟨k, 0, _, hg.map h.1.1 h.1.2 h.2.1 hk, fun W b P hW => map_at W b P L p n k h hW hg hk, fun W b r hW => rmap_at p n k h hW hg hk⟩
    · exact ⟨0, 5, L, hg, fun W b P hW => still hW (map_no W b P L p n h hW hg hk), fun W b r hW => still2 hW (rmap_no p n h hW hg hk)⟩
  · exact ⟨0, 1, L, hg, fun W b P hW => still hW (map_arg W (pq P) p n h), fun W b r hW => still2 hW (rmap_arg W r p n h)⟩
theorem unm_two {L : List Ar} (hg : Good L) (p n : Int) : ∃ I E L', Two 19 23 [i64 p, i64 n] L L' (.returned (.tuple #[i64 I, i64 E])) := by
  have hl : L.length ≤ 1000 := Nat.le_trans hg.len (by omega)
  exact ⟨_, _, _, hg.filter _, fun W b P hW => unmap_ok W b P L p n hW hl, fun W b r hW => runmap_ok hW hl hg p n⟩
theorem fork_two {L : List Ar} (hg : Good L) (p c : Int) : ∃ E L', Two 20 24 [i64 p, i64 c] L L' (.returned (i64 E)) := by
  have hl : L.length ≤ 1000 := Nat.le_trans hg.len (by omega)
  by_cases h : FkOk p c
  · by_cases hc : cntL L c = 0
    · exact ⟨0, _, hg.fork h.2.1.1 h.2.1.2 hc, fun W b P hW => fork_ok W b P L p c h hW hg hc, fun W b r hW => rfork_ok p c h hW hl hc⟩
    · exact ⟨7, L, hg, fun W b P hW => still hW (fork_st W b P L p c h hW hl (by omega)), fun W b r hW => still2 hW (rfork_st p c h hW hl (by omega))⟩
  · exact ⟨1, L, hg, fun W b P hW => still hW (fork_arg W (pq P) p c h), fun W b r hW => still2 hW (rfork_arg W r p c h)⟩
theorem drop_two {L : List Ar} (hg : Good L) (p : Int) : ∃ E L', Two 21 25 [i64 p] L L' (.returned (i64 E)) := by
  have hl : L.length ≤ 1000 := Nat.le_trans hg.len (by omega)
  exact ⟨_, _, hg.filter _, fun W b P hW => drop_ok W b P L p hW hl, fun W b r hW => rdrop_ok hW hl p⟩
theorem has_two {L : List Ar} (hg : Good L) (p g : Int) : ∃ B L', Two 14 15 [i64 p, i64 g] L L' (.returned (.bool B)) := by
  have hl : L.length ≤ 1000 := Nat.le_trans hg.len (by omega)
  exact ⟨_, L, hg, fun W b P hW => still hW (has_ok W b (pq P) L p g hW.lv hl hg.isA), fun W b r hW => still2 hW (rhas_ok hW hl hg.isA p g)⟩
theorem four_cells {W : World} {X : Nat} {x : Sp} (h : W.heap[X]? = some (spO x)) : W.cell? ⟨X, 0, none⟩ = some (i64 x.what) ∧ W.cell? ⟨X, 1, none⟩ = some (i64 x.pid) ∧ W.cell? ⟨X, 2, none⟩ = some (i64 x.fst) ∧ W.cell? ⟨X, 3, none⟩ = some (i64 x.n) := ⟨blk_cell h 0, blk_cell h 1, blk_cell h 2, blk_cell h 3⟩
def BoX (w : World) (b P r : Nat) : Prop := ∃ L, Bo w b P r L
set_option maxRecDepth 100000 in
set_option maxHeartbeats 3200000 in
theorem does0 (w : World) (b P r : Nat) (L : List Ar) (x : Sp) (h : Bo w b P r L) (hk : x.what = 0) : Calls Try.prog 10 #[pq P, pq r, x.v] w fun e w' => e = .returned (.bool true) ∧ BoX w' b P r ∧ Fr b [54, 42, 29, 58] w w' := by
  have q0 : (x.what == 0) = true := by simp only [beq_iff_eq]; omega
  clear hk
  obtain ⟨I, E, L2, hg', ho1, ho2⟩ := map_two h.gd x.pid x.n
  have HV : Hid (Bo (w.alloc (spO x)) b P r L) := h.below (below_one w _)
  have HX : Hid ((w.alloc (spO x)).heap[w.heap.size]? = some (spO x)) := heap_last w _
  have HFV : Hid (Fr b [54, 42, 29, 58] w (w.alloc (spO x))) := Fr.of_below _ (below_one w _) h.lob
  have HG' := hid hg'
  clear h hg'
  have HO1 : Hid (Calls Try.prog 17 #[pq P, i64 x.pid, i64 x.n] (w.alloc (spO x)) fun e' w' => e' = .returned (.tuple #[i64 I, i64 E]) ∧ Lb w' b P L2 ∧ Fr b [54, 42] (w.alloc (spO x)) w') := ho1 (w.alloc (spO x)) b P HV.out.lb
  have HO2 : Hid (∀ W, Rb W b r L → Calls Try.prog 22 #[pq r, i64 x.pid, i64 x.n] W fun e' w' => e' = .returned (.tuple #[i64 I, i64 E]) ∧ Rb w' b r L2 ∧ Fr b [29, 58] W w') := fun W hW => ho2 W b r hW
  clear ho1 ho2
  go_enter Try.func10, Try.ntmps10
  go_wp2_with fail
  refine HO1.out.mono ?_
  rintro e w2 ⟨rfl, hl2, hf2⟩
  have HL2 := hid hl2
  have HR2 := hid (HV.out.rb.fr hf2 (by rfl) (by rfl))
  have HF2 : Hid (Fr b [54, 42, 29, 58] w w2) := HFV.out.trans (fr_more hf2)
  have HX2 := hid (hf2.kept _ _ HX.out (by rfl))
  obtain ⟨y0, y1, y2, y3⟩ := four_cells HX2.out
  have hx2 : w.heap.size < w2.heap.size := blk_lt HX2.out
  have HO3 := hid (HO2.out w2 HR2.out)
  clear hl2 hf2 HO1 HO2
  go_wp2_with fail
  refine HO3.out.mono ?_
  rintro e w3 ⟨rfl, hr3, hf3⟩
  have HB3 : Hid (BoX w3 b P r) := ⟨L2, HL2.out.fr hf3 (by rfl) (by rfl), hr3, HG'.out⟩
  have HF3 : Hid (Fr b [54, 42, 29, 58] w w3) := HF2.out.trans (fr_more2 hf3)
  clear hr3 hf3 HO3 y0 y1 y2 y3 hx2
  go_wp2_with fail
  go_ret
  exact ⟨rfl, HB3.out, HF3.out⟩
set_option maxRecDepth 100000 in
set_option maxHeartbeats 3200000 in
theorem does1 (w : World) (b P r : Nat) (L : List Ar) (x : Sp) (h : Bo w b P r L) (hk : x.what = 1) : Calls Try.prog 10 #[pq P, pq r, x.v] w fun e w' => e = .returned (.bool true) ∧ BoX w' b P r ∧ Fr b [54, 42, 29, 58] w w' := by
  have q0 : (x.what == 0) = false := by simp only [beq_eq_false_iff_ne, ne_eq]; omega
  have q1 : (x.what == 1) = true := by simp only [beq_iff_eq]; omega
  clear hk
  obtain ⟨I, E, L2, hg', ho1, ho2⟩ := map_two h.gd x.pid x.n
  have HV : Hid (Bo (w.alloc (spO x)) b P r L) := h.below (below_one w _)
  have HX : Hid ((w.alloc (spO x)).heap[w.heap.size]? = some (spO x)) := heap_last w _
  have HFV : Hid (Fr b [54, 42, 29, 58] w (w.alloc (spO x))) := Fr.of_below _ (below_one w _) h.lob
  have HG' := hid hg'
  clear h hg'
  have HO1 : Hid (Calls Try.prog 17 #[pq P, i64 x.pid, i64 x.n] (w.alloc (spO x)) fun e' w' => e' = .returned (.tuple #[i64 I, i64 E]) ∧ Lb w' b P L2 ∧ Fr b [54, 42] (w.alloc (spO x)) w') := ho1 (w.alloc (spO x)) b P HV.out.lb
  have HO2 : Hid (∀ W, Rb W b r L → Calls Try.prog 22 #[pq r, i64 x.pid, i64 x.n] W fun e' w' => e' = .returned (.tuple #[i64 I, i64 E]) ∧ Rb w' b r L2 ∧ Fr b [29, 58] W w') := fun W hW => ho2 W b r hW
  clear ho1 ho2
  go_enter Try.func10, Try.ntmps10
  go_wp2_with fail
  refine HO1.out.mono ?_
  rintro e w2 ⟨rfl, hl2, hf2⟩
  have HL2 := hid hl2
  have HR2 := hid (HV.out.rb.fr hf2 (by rfl) (by rfl))
  have HF2 : Hid (Fr b [54, 42, 29, 58] w w2) := HFV.out.trans (fr_more hf2)
  have HX2 := hid (hf2.kept _ _ HX.out (by rfl))
  obtain ⟨y0, y1, y2, y3⟩ := four_cells HX2.out
  have hx2 : w.heap.size < w2.heap.size := blk_lt HX2.out
  have HO3 := hid (HO2.out w2 HR2.out)
  clear hl2 hf2 HO1 HO2
  go_wp2_with fail
  refine HO3.out.mono ?_
  rintro e w3 ⟨rfl, hr3, hf3⟩
  have HB3 : Hid (BoX w3 b P r) := ⟨L2, HL2.out.fr hf3 (by rfl) (by rfl), hr3, HG'.out⟩
  have HF3 : Hid (Fr b [54, 42, 29, 58] w w3) := HF2.out.trans (fr_more2 hf3)
  clear hr3 hf3 HO3 y0 y1 y2 y3 hx2
  go_wp2_with fail
  go_ret
  exact ⟨rfl, HB3.out, HF3.out⟩
set_option maxRecDepth 100000 in
set_option maxHeartbeats 3200000 in
theorem does2 (w : World) (b P r : Nat) (L : List Ar) (x : Sp) (h : Bo w b P r L) (hk : x.what = 2) : Calls Try.prog 10 #[pq P, pq r, x.v] w fun e w' => e = .returned (.bool true) ∧ BoX w' b P r ∧ Fr b [54, 42, 29, 58] w w' := by
  have q0 : (x.what == 0) = false := by simp only [beq_eq_false_iff_ne, ne_eq]; omega
  have q1 : (x.what == 1) = false := by simp only [beq_eq_false_iff_ne, ne_eq]; omega
  have q2 : (x.what == 2) = true := by simp only [beq_iff_eq]; omega
  clear hk
  obtain ⟨I, E, L2, hg', ho1, ho2⟩ := map_two h.gd x.pid x.n
  have HV : Hid (Bo (w.alloc (spO x)) b P r L) := h.below (below_one w _)
  have HX : Hid ((w.alloc (spO x)).heap[w.heap.size]? = some (spO x)) := heap_last w _
  have HFV : Hid (Fr b [54, 42, 29, 58] w (w.alloc (spO x))) := Fr.of_below _ (below_one w _) h.lob
  have HG' := hid hg'
  clear h hg'
  have HO1 : Hid (Calls Try.prog 17 #[pq P, i64 x.pid, i64 x.n] (w.alloc (spO x)) fun e' w' => e' = .returned (.tuple #[i64 I, i64 E]) ∧ Lb w' b P L2 ∧ Fr b [54, 42] (w.alloc (spO x)) w') := ho1 (w.alloc (spO x)) b P HV.out.lb
  have HO2 : Hid (∀ W, Rb W b r L → Calls Try.prog 22 #[pq r, i64 x.pid, i64 x.n] W fun e' w' => e' = .returned (.tuple #[i64 I, i64 E]) ∧ Rb w' b r L2 ∧ Fr b [29, 58] W w') := fun W hW => ho2 W b r hW
  clear ho1 ho2
  go_enter Try.func10, Try.ntmps10
  go_wp2_with fail
  refine HO1.out.mono ?_
  rintro e w2 ⟨rfl, hl2, hf2⟩
  have HL2 := hid hl2
  have HR2 := hid (HV.out.rb.fr hf2 (by rfl) (by rfl))
  have HF2 : Hid (Fr b [54, 42, 29, 58] w w2) := HFV.out.trans (fr_more hf2)
  have HX2 := hid (hf2.kept _ _ HX.out (by rfl))
  obtain ⟨y0, y1, y2, y3⟩ := four_cells HX2.out
  have hx2 : w.heap.size < w2.heap.size := blk_lt HX2.out
  have HO3 := hid (HO2.out w2 HR2.out)
  clear hl2 hf2 HO1 HO2
  go_wp2_with fail
  refine HO3.out.mono ?_
  rintro e w3 ⟨rfl, hr3, hf3⟩
  have HB3 : Hid (BoX w3 b P r) := ⟨L2, HL2.out.fr hf3 (by rfl) (by rfl), hr3, HG'.out⟩
  have HF3 : Hid (Fr b [54, 42, 29, 58] w w3) := HF2.out.trans (fr_more2 hf3)
  clear hr3 hf3 HO3 y0 y1 y2 y3 hx2
  go_wp2_with fail
  go_ret
  exact ⟨rfl, HB3.out, HF3.out⟩
set_option maxRecDepth 100000 in
set_option maxHeartbeats 3200000 in
theorem does3 (w : World) (b P r : Nat) (L : List Ar) (x : Sp) (h : Bo w b P r L) (hk : x.what = 3) : Calls Try.prog 10 #[pq P, pq r, x.v] w fun e w' => e = .returned (.bool true) ∧ BoX w' b P r ∧ Fr b [54, 42, 29, 58] w w' := by
  have q0 : (x.what == 0) = false := by simp only [beq_eq_false_iff_ne, ne_eq]; omega
  have q1 : (x.what == 1) = false := by simp only [beq_eq_false_iff_ne, ne_eq]; omega
  have q2 : (x.what == 2) = false := by simp only [beq_eq_false_iff_ne, ne_eq]; omega
  have q3 : (x.what == 3) = true := by simp only [beq_iff_eq]; omega
  clear hk
  obtain ⟨I, E, L2, hg', ho1, ho2⟩ := unm_two h.gd x.pid x.fst
  have HV : Hid (Bo (w.alloc (spO x)) b P r L) := h.below (below_one w _)
  have HX : Hid ((w.alloc (spO x)).heap[w.heap.size]? = some (spO x)) := heap_last w _
  have HFV : Hid (Fr b [54, 42, 29, 58] w (w.alloc (spO x))) := Fr.of_below _ (below_one w _) h.lob
  have HG' := hid hg'
  clear h hg'
  have HO1 : Hid (Calls Try.prog 19 #[pq P, i64 x.pid, i64 x.fst] (w.alloc (spO x)) fun e' w' => e' = .returned (.tuple #[i64 I, i64 E]) ∧ Lb w' b P L2 ∧ Fr b [54, 42] (w.alloc (spO x)) w') := ho1 (w.alloc (spO x)) b P HV.out.lb
  have HO2 : Hid (∀ W, Rb W b r L → Calls Try.prog 23 #[pq r, i64 x.pid, i64 x.fst] W fun e' w' => e' = .returned (.tuple #[i64 I, i64 E]) ∧ Rb w' b r L2 ∧ Fr b [29, 58] W w') := fun W hW => ho2 W b r hW
  clear ho1 ho2
  go_enter Try.func10, Try.ntmps10
  go_wp2_with fail
  refine HO1.out.mono ?_
  rintro e w2 ⟨rfl, hl2, hf2⟩
  have HL2 := hid hl2
  have HR2 := hid (HV.out.rb.fr hf2 (by rfl) (by rfl))
  have HF2 : Hid (Fr b [54, 42, 29, 58] w w2) := HFV.out.trans (fr_more hf2)
  have HX2 := hid (hf2.kept _ _ HX.out (by rfl))
  obtain ⟨y0, y1, y2, y3⟩ := four_cells HX2.out
  have hx2 : w.heap.size < w2.heap.size := blk_lt HX2.out
  have HO3 := hid (HO2.out w2 HR2.out)
  clear hl2 hf2 HO1 HO2
  go_wp2_with fail
  refine HO3.out.mono ?_
  rintro e w3 ⟨rfl, hr3, hf3⟩
  have HB3 : Hid (BoX w3 b P r) := ⟨L2, HL2.out.fr hf3 (by rfl) (by rfl), hr3, HG'.out⟩
  have HF3 : Hid (Fr b [54, 42, 29, 58] w w3) := HF2.out.trans (fr_more2 hf3)
  clear hr3 hf3 HO3 y0 y1 y2 y3 hx2
  go_wp2_with fail
  go_ret
  exact ⟨rfl, HB3.out, HF3.out⟩
set_option maxRecDepth 100000 in
set_option maxHeartbeats 3200000 in
theorem does4 (w : World) (b P r : Nat) (L : List Ar) (x : Sp) (h : Bo w b P r L) (hk : x.what = 4) : Calls Try.prog 10 #[pq P, pq r, x.v] w fun e w' => e = .returned (.bool true) ∧ BoX w' b P r ∧ Fr b [54, 42, 29, 58] w w' := by
  have q0 : (x.what == 0) = false := by simp only [beq_eq_false_iff_ne, ne_eq]; omega
  have q1 : (x.what == 1) = false := by simp only [beq_eq_false_iff_ne, ne_eq]; omega
  have q2 : (x.what == 2) = false := by simp only [beq_eq_false_iff_ne, ne_eq]; omega
  have q3 : (x.what == 3) = false := by simp only [beq_eq_false_iff_ne, ne_eq]; omega
  have q4 : (x.what == 4) = true := by simp only [beq_iff_eq]; omega
  clear hk
  obtain ⟨I, E, L2, hg', ho1, ho2⟩ := unm_two h.gd x.pid x.fst
  have HV : Hid (Bo (w.alloc (spO x)) b P r L) := h.below (below_one w _)
  have HX : Hid ((w.alloc (spO x)).heap[w.heap.size]? = some (spO x)) := heap_last w _
  have HFV : Hid (Fr b [54, 42, 29, 58] w (w.alloc (spO x))) := Fr.of_below _ (below_one w _) h.lob
  have HG' := hid hg'
  clear h hg'
  have HO1 : Hid (Calls Try.prog 19 #[pq P, i64 x.pid, i64 x.fst] (w.alloc (spO x)) fun e' w' => e' = .returned (.tuple #[i64 I, i64 E]) ∧ Lb w' b P L2 ∧ Fr b [54, 42] (w.alloc (spO x)) w') := ho1 (w.alloc (spO x)) b P HV.out.lb
  have HO2 : Hid (∀ W, Rb W b r L → Calls Try.prog 23 #[pq r, i64 x.pid, i64 x.fst] W fun e' w' => e' = .returned (.tuple #[i64 I, i64 E]) ∧ Rb w' b r L2 ∧ Fr b [29, 58] W w') := fun W hW => ho2 W b r hW
  clear ho1 ho2
  go_enter Try.func10, Try.ntmps10
  go_wp2_with fail
  refine HO1.out.mono ?_
  rintro e w2 ⟨rfl, hl2, hf2⟩
  have HL2 := hid hl2
  have HR2 := hid (HV.out.rb.fr hf2 (by rfl) (by rfl))
  have HF2 : Hid (Fr b [54, 42, 29, 58] w w2) := HFV.out.trans (fr_more hf2)
  have HX2 := hid (hf2.kept _ _ HX.out (by rfl))
  obtain ⟨y0, y1, y2, y3⟩ := four_cells HX2.out
  have hx2 : w.heap.size < w2.heap.size := blk_lt HX2.out
  have HO3 := hid (HO2.out w2 HR2.out)
  clear hl2 hf2 HO1 HO2
  go_wp2_with fail
  refine HO3.out.mono ?_
  rintro e w3 ⟨rfl, hr3, hf3⟩
  have HB3 : Hid (BoX w3 b P r) := ⟨L2, HL2.out.fr hf3 (by rfl) (by rfl), hr3, HG'.out⟩
  have HF3 : Hid (Fr b [54, 42, 29, 58] w w3) := HF2.out.trans (fr_more2 hf3)
  clear hr3 hf3 HO3 y0 y1 y2 y3 hx2
  go_wp2_with fail
  go_ret
  exact ⟨rfl, HB3.out, HF3.out⟩
set_option maxRecDepth 100000 in
set_option maxHeartbeats 3200000 in
theorem does5 (w : World) (b P r : Nat) (L : List Ar) (x : Sp) (h : Bo w b P r L) (hk : x.what = 5) : Calls Try.prog 10 #[pq P, pq r, x.v] w fun e w' => e = .returned (.bool true) ∧ BoX w' b P r ∧ Fr b [54, 42, 29, 58] w w' := by
  have q0 : (x.what == 0) = false := by simp only [beq_eq_false_iff_ne, ne_eq]; omega
  have q1 : (x.what == 1) = false := by simp only [beq_eq_false_iff_ne, ne_eq]; omega
  have q2 : (x.what == 2) = false := by simp only [beq_eq_false_iff_ne, ne_eq]; omega
  have q3 : (x.what == 3) = false := by simp only [beq_eq_false_iff_ne, ne_eq]; omega
  have q4 : (x.what == 4) = false := by simp only [beq_eq_false_iff_ne, ne_eq]; omega
  have q5 : (x.what == 5) = true := by simp only [beq_iff_eq]; omega
  clear hk
  obtain ⟨E, L2, hg', ho1, ho2⟩ := fork_two h.gd x.pid x.n
  have HV : Hid (Bo (w.alloc (spO x)) b P r L) := h.below (below_one w _)
  have HX : Hid ((w.alloc (spO x)).heap[w.heap.size]? = some (spO x)) := heap_last w _
  have HFV : Hid (Fr b [54, 42, 29, 58] w (w.alloc (spO x))) := Fr.of_below _ (below_one w _) h.lob
  have HG' := hid hg'
  clear h hg'
  have HO1 : Hid (∀ W, Lb W b P L → Calls Try.prog 20 #[pq P, i64 x.pid, i64 x.n] W fun e' w' => e' = .returned (i64 E) ∧ Lb w' b P L2 ∧ Fr b [54, 42] W w') := fun W hW => ho1 W b P hW
  have HO2 : Hid (∀ W, Rb W b r L → Calls Try.prog 24 #[pq r, i64 x.pid, i64 x.n] W fun e' w' => e' = .returned (i64 E) ∧ Rb w' b r L2 ∧ Fr b [29, 58] W w') := fun W hW => ho2 W b r hW
  clear ho1 ho2
  go_enter Try.func10, Try.ntmps10
  go_upto_region 14 with fail
  obtain ⟨X, hX⟩ : ∃ X, X = w.heap.size := ⟨_, rfl⟩
  rw [← hX] at HX ⊢
  generalize w.alloc (spO x) = V at *
  clear hX
  have HS : Hid ((fun W : World => W.heap[X]? = some (spO x)) V.drew) := HX.out
  have HVd : Hid (Bo V.drew b P r L) := ⟨by obtain ⟨v, h1, h2, h3⟩ := HV.out.lb; exact ⟨v, h1, h2, own_keep h3 (fun _ _ h => h)⟩, by obtain ⟨h1, ao, cap, h2, h3⟩ := HV.out.rb; exact ⟨h1, ao, cap, h2, own_keep h3 (fun _ _ h => h)⟩, HV.out.gd⟩
  refine wp_region_noPanic ?_
  refine wp_region_last (fun W : World => W.heap[X]? = some (spO x)) 13 (by kernel_rfl) ?_
  refine wpL_take 0 78 (pq P) [] rfl rfl (by kernel_rfl) (by decide) (by kernel_rfl) (by kernel_rfl) (by kernel_rfl) (fun _ _ _ h => h) HS.out (by rfl) (fun W hW => by obtain ⟨y0, y1, y2, y3⟩ := four_cells hW; go_simp) ?_
  simp only [Act.put, List.setIfInBounds_toArray, List.set_cons_zero, List.set_cons_succ]
  refine wpL_take 1 79 (.pointer (some ⟨X, 1, none⟩)) [] rfl rfl (by kernel_rfl) (by decide) (by kernel_rfl) (by kernel_rfl) (by kernel_rfl) (fun _ _ _ h => h) HS.out (by rfl) (fun W hW => by obtain ⟨y0, y1, y2, y3⟩ := four_cells hW; go_simp) ?_
  simp only [Act.put, List.setIfInBounds_toArray, List.set_cons_zero, List.set_cons_succ]
  refine wpL_take 2 80 (i64 x.pid) [] rfl rfl (by kernel_rfl) (by decide) (by kernel_rfl) (by kernel_rfl) (by kernel_rfl) (fun _ _ _ h => h) HS.out (by rfl) (fun W hW => by obtain ⟨y0, y1, y2, y3⟩ := four_cells hW; go_simp) ?_
  simp only [Act.put, List.setIfInBounds_toArray, List.set_cons_zero, List.set_cons_succ]
  refine wpL_take 3 81 (.pointer (some ⟨X, 3, none⟩)) [] rfl rfl (by kernel_rfl) (by decide) (by kernel_rfl) (by kernel_rfl) (by kernel_rfl) (fun _ _ _ h => h) HS.out (by rfl) (fun W hW => by obtain ⟨y0, y1, y2, y3⟩ := four_cells hW; go_simp) ?_
  simp only [Act.put, List.setIfInBounds_toArray, List.set_cons_zero, List.set_cons_succ]
  refine wpL_take 4 82 (i64 x.n) [] rfl rfl (by kernel_rfl) (by decide) (by kernel_rfl) (by kernel_rfl) (by kernel_rfl) (fun _ _ _ h => h) HS.out (by rfl) (fun W hW => by obtain ⟨y0, y1, y2, y3⟩ := four_cells hW; go_simp) ?_
  simp only [Act.put, List.setIfInBounds_toArray, List.set_cons_zero, List.set_cons_succ]
  refine wpL_take 6 84 (pq r) [] rfl rfl (by kernel_rfl) (by decide) (by kernel_rfl) (by kernel_rfl) (by kernel_rfl) (fun _ _ _ h => h) HS.out (by rfl) (fun W hW => by obtain ⟨y0, y1, y2, y3⟩ := four_cells hW; go_simp) ?_
  simp only [Act.put, List.setIfInBounds_toArray, List.set_cons_zero, List.set_cons_succ]
  refine wpL_take 7 85 (.pointer (some ⟨X, 1, none⟩)) [] rfl rfl (by kernel_rfl) (by decide) (by kernel_rfl) (by kernel_rfl) (by kernel_rfl) (fun _ _ _ h => h) HS.out (by rfl) (fun W hW => by obtain ⟨y0, y1, y2, y3⟩ := four_cells hW; go_simp) ?_
  simp only [Act.put, List.setIfInBounds_toArray, List.set_cons_zero, List.set_cons_succ]
  refine wpL_take 8 86 (i64 x.pid) [] rfl rfl (by kernel_rfl) (by decide) (by kernel_rfl) (by kernel_rfl) (by kernel_rfl) (fun _ _ _ h => h) HS.out (by rfl) (fun W hW => by obtain ⟨y0, y1, y2, y3⟩ := four_cells hW; go_simp) ?_
  simp only [Act.put, List.setIfInBounds_toArray, List.set_cons_zero, List.set_cons_succ]
  refine wpL_take 9 87 (.pointer (some ⟨X, 3, none⟩)) [] rfl rfl (by kernel_rfl) (by decide) (by kernel_rfl) (by kernel_rfl) (by kernel_rfl) (fun _ _ _ h => h) HS.out (by rfl) (fun W hW => by obtain ⟨y0, y1, y2, y3⟩ := four_cells hW; go_simp) ?_
  simp only [Act.put, List.setIfInBounds_toArray, List.set_cons_zero, List.set_cons_succ]
  refine wpL_take 10 88 (i64 x.n) [] rfl rfl (by kernel_rfl) (by decide) (by kernel_rfl) (by kernel_rfl) (by kernel_rfl) (fun _ _ _ h => h) HS.out (by rfl) (fun W hW => by obtain ⟨y0, y1, y2, y3⟩ := four_cells hW; go_simp) ?_
  simp only [Act.put, List.setIfInBounds_toArray, List.set_cons_zero, List.set_cons_succ]
  refine wpL_one 5 rfl (by kernel_rfl) (by rfl) (fun K hK => ?_)
  go_simp
  refine (HO1.out V.drew HVd.out.lb).mono ?_
  rintro e w2 ⟨rfl, hl2, hf2⟩
  have HL2 := hid hl2
  have HR2 := hid (HVd.out.rb.fr hf2 (by rfl) (by rfl))
  have HF2 : Hid (Fr b [54, 42, 29, 58] w w2) := HFV.out.trans ((show Fr b [54, 42, 29, 58] V V.drew from ⟨⟨rfl, rfl, rfl, Nat.le_refl _, fun _ _ => rfl⟩, fun _ _ h _ => h⟩).trans (fr_more hf2))
  have HX2 : Hid ((fun W : World => W.heap[X]? = some (spO x)) w2) := hf2.kept _ _ HX.out (by rfl)
  clear hl2 hf2
  go_simp
  refine hK.out _ _ (fun _ => HX2.out) ?_
  clear hK K
  refine wpL_one 11 rfl (by kernel_rfl) (by rfl) (fun K hK => ?_)
  go_simp
  refine (HO2.out w2 HR2.out).mono ?_
  rintro e w3 ⟨rfl, hr3, hf3⟩
  have HB3 : Hid (BoX w3 b P r) := ⟨L2, HL2.out.fr hf3 (by rfl) (by rfl), hr3, HG'.out⟩
  have HF3 : Hid (Fr b [54, 42, 29, 58] w w3) := HF2.out.trans (fr_more2 hf3)
  have HX3 : Hid ((fun W : World => W.heap[X]? = some (spO x)) w3) := hf3.kept _ _ HX2.out (by rfl)
  clear hr3 hf3
  go_simp
  refine hK.out _ _ (fun _ => HX3.out) ?_
  clear hK K
  refine wpL_take 12 90 (.bool true) [] rfl rfl (by kernel_rfl) (by decide) (by kernel_rfl) (by kernel_rfl) (by kernel_rfl) (fun _ _ _ h => h) HX3.out (by rfl) (fun W hW => by go_simp) ?_
  simp only [Act.put, List.setIfInBounds_toArray, List.set_cons_zero, List.set_cons_succ]
  refine wpL_one 13 rfl (by kernel_rfl) (by rfl) (fun K hK => ?_)
  go_simp
  refine hK.out _ _ (fun h => absurd rfl h) ?_
  clear hK K
  refine wpL_done (by kernel_rfl) ?_
  refine NoPanic.normal ?_
  go_wp2_with fail
  go_ret
  exact ⟨rfl, HB3.out, HF3.out⟩
set_option maxRecDepth 100000 in
set_option maxHeartbeats 3200000 in
theorem does6 (w : World) (b P r : Nat) (L : List Ar) (x : Sp) (h : Bo w b P r L) (hk : x.what = 6) : Calls Try.prog 10 #[pq P, pq r, x.v] w fun e w' => e = .returned (.bool true) ∧ BoX w' b P r ∧ Fr b [54, 42, 29, 58] w w' := by
  have q0 : (x.what == 0) = false := by simp only [beq_eq_false_iff_ne, ne_eq]; omega
  have q1 : (x.what == 1) = false := by simp only [beq_eq_false_iff_ne, ne_eq]; omega
  have q2 : (x.what == 2) = false := by simp only [beq_eq_false_iff_ne, ne_eq]; omega
  have q3 : (x.what == 3) = false := by simp only [beq_eq_false_iff_ne, ne_eq]; omega
  have q4 : (x.what == 4) = false := by simp only [beq_eq_false_iff_ne, ne_eq]; omega
  have q5 : (x.what == 5) = false := by simp only [beq_eq_false_iff_ne, ne_eq]; omega
  have q6 : (x.what == 6) = true := by simp only [beq_iff_eq]; omega
  clear hk
  obtain ⟨E, L2, hg', ho1, ho2⟩ := drop_two h.gd x.pid
  have HV : Hid (Bo (w.alloc (spO x)) b P r L) := h.below (below_one w _)
  have HX : Hid ((w.alloc (spO x)).heap[w.heap.size]? = some (spO x)) := heap_last w _
  have HFV : Hid (Fr b [54, 42, 29, 58] w (w.alloc (spO x))) := Fr.of_below _ (below_one w _) h.lob
  have HG' := hid hg'
  clear h hg'
  have HO1 : Hid (∀ W, Lb W b P L → Calls Try.prog 21 #[pq P, i64 x.pid] W fun e' w' => e' = .returned (i64 E) ∧ Lb w' b P L2 ∧ Fr b [54, 42] W w') := fun W hW => ho1 W b P hW
  have HO2 : Hid (∀ W, Rb W b r L → Calls Try.prog 25 #[pq r, i64 x.pid] W fun e' w' => e' = .returned (i64 E) ∧ Rb w' b r L2 ∧ Fr b [29, 58] W w') := fun W hW => ho2 W b r hW
  clear ho1 ho2
  go_enter Try.func10, Try.ntmps10
  go_upto_region 16 with fail
  obtain ⟨X, hX⟩ : ∃ X, X = w.heap.size := ⟨_, rfl⟩
  rw [← hX] at HX ⊢
  generalize w.alloc (spO x) = V at *
  clear hX
  have HS : Hid ((fun W : World => W.heap[X]? = some (spO x)) V.drew) := HX.out
  have HVd : Hid (Bo V.drew b P r L) := ⟨by obtain ⟨v, h1, h2, h3⟩ := HV.out.lb; exact ⟨v, h1, h2, own_keep h3 (fun _ _ h => h)⟩, by obtain ⟨h1, ao, cap, h2, h3⟩ := HV.out.rb; exact ⟨h1, ao, cap, h2, own_keep h3 (fun _ _ h => h)⟩, HV.out.gd⟩
  refine wp_region_noPanic ?_
  refine wp_region_last (fun W : World => W.heap[X]? = some (spO x)) 9 (by kernel_rfl) ?_
  refine wpL_take 0 93 (pq P) [] rfl rfl (by kernel_rfl) (by decide) (by kernel_rfl) (by kernel_rfl) (by kernel_rfl) (fun _ _ _ h => h) HS.out (by rfl) (fun W hW => by obtain ⟨y0, y1, y2, y3⟩ := four_cells hW; go_simp) ?_
  simp only [Act.put, List.setIfInBounds_toArray, List.set_cons_zero, List.set_cons_succ]
  refine wpL_take 1 94 (.pointer (some ⟨X, 1, none⟩)) [] rfl rfl (by kernel_rfl) (by decide) (by kernel_rfl) (by kernel_rfl) (by kernel_rfl) (fun _ _ _ h => h) HS.out (by rfl) (fun W hW => by obtain ⟨y0, y1, y2, y3⟩ := four_cells hW; go_simp) ?_
  simp only [Act.put, List.setIfInBounds_toArray, List.set_cons_zero, List.set_cons_succ]
  refine wpL_take 2 95 (i64 x.pid) [] rfl rfl (by kernel_rfl) (by decide) (by kernel_rfl) (by kernel_rfl) (by kernel_rfl) (fun _ _ _ h => h) HS.out (by rfl) (fun W hW => by obtain ⟨y0, y1, y2, y3⟩ := four_cells hW; go_simp) ?_
  simp only [Act.put, List.setIfInBounds_toArray, List.set_cons_zero, List.set_cons_succ]
  refine wpL_take 4 97 (pq r) [] rfl rfl (by kernel_rfl) (by decide) (by kernel_rfl) (by kernel_rfl) (by kernel_rfl) (fun _ _ _ h => h) HS.out (by rfl) (fun W hW => by obtain ⟨y0, y1, y2, y3⟩ := four_cells hW; go_simp) ?_
  simp only [Act.put, List.setIfInBounds_toArray, List.set_cons_zero, List.set_cons_succ]
  refine wpL_take 5 98 (.pointer (some ⟨X, 1, none⟩)) [] rfl rfl (by kernel_rfl) (by decide) (by kernel_rfl) (by kernel_rfl) (by kernel_rfl) (fun _ _ _ h => h) HS.out (by rfl) (fun W hW => by obtain ⟨y0, y1, y2, y3⟩ := four_cells hW; go_simp) ?_
  simp only [Act.put, List.setIfInBounds_toArray, List.set_cons_zero, List.set_cons_succ]
  refine wpL_take 6 99 (i64 x.pid) [] rfl rfl (by kernel_rfl) (by decide) (by kernel_rfl) (by kernel_rfl) (by kernel_rfl) (fun _ _ _ h => h) HS.out (by rfl) (fun W hW => by obtain ⟨y0, y1, y2, y3⟩ := four_cells hW; go_simp) ?_
  simp only [Act.put, List.setIfInBounds_toArray, List.set_cons_zero, List.set_cons_succ]
  refine wpL_one 3 rfl (by kernel_rfl) (by rfl) (fun K hK => ?_)
  go_simp
  refine (HO1.out V.drew HVd.out.lb).mono ?_
  rintro e w2 ⟨rfl, hl2, hf2⟩
  have HL2 := hid hl2
  have HR2 := hid (HVd.out.rb.fr hf2 (by rfl) (by rfl))
  have HF2 : Hid (Fr b [54, 42, 29, 58] w w2) := HFV.out.trans ((show Fr b [54, 42, 29, 58] V V.drew from ⟨⟨rfl, rfl, rfl, Nat.le_refl _, fun _ _ => rfl⟩, fun _ _ h _ => h⟩).trans (fr_more hf2))
  have HX2 : Hid ((fun W : World => W.heap[X]? = some (spO x)) w2) := hf2.kept _ _ HX.out (by rfl)
  clear hl2 hf2
  go_simp
  refine hK.out _ _ (fun _ => HX2.out) ?_
  clear hK K
  refine wpL_one 7 rfl (by kernel_rfl) (by rfl) (fun K hK => ?_)
  go_simp
  refine (HO2.out w2 HR2.out).mono ?_
  rintro e w3 ⟨rfl, hr3, hf3⟩
  have HB3 : Hid (BoX w3 b P r) := ⟨L2, HL2.out.fr hf3 (by rfl) (by rfl), hr3, HG'.out⟩
  have HF3 : Hid (Fr b [54, 42, 29, 58] w w3) := HF2.out.trans (fr_more2 hf3)
  have HX3 : Hid ((fun W : World => W.heap[X]? = some (spO x)) w3) := hf3.kept _ _ HX2.out (by rfl)
  clear hr3 hf3
  go_simp
  refine hK.out _ _ (fun _ => HX3.out) ?_
  clear hK K
  refine wpL_take 8 101 (.bool true) [] rfl rfl (by kernel_rfl) (by decide) (by kernel_rfl) (by kernel_rfl) (by kernel_rfl) (fun _ _ _ h => h) HX3.out (by rfl) (fun W hW => by go_simp) ?_
  simp only [Act.put, List.setIfInBounds_toArray, List.set_cons_zero, List.set_cons_succ]
  refine wpL_one 9 rfl (by kernel_rfl) (by rfl) (fun K hK => ?_)
  go_simp
  refine hK.out _ _ (fun h => absurd rfl h) ?_
  clear hK K
  refine wpL_done (by kernel_rfl) ?_
  refine NoPanic.normal ?_
  go_wp2_with fail
  go_ret
  exact ⟨rfl, HB3.out, HF3.out⟩
set_option maxRecDepth 100000 in
set_option maxHeartbeats 3200000 in
theorem does7 (w : World) (b P r : Nat) (L : List Ar) (x : Sp) (h : Bo w b P r L) (hk : x.what < 0 ∨ 6 < x.what) : Calls Try.prog 10 #[pq P, pq r, x.v] w fun e w' => e = .returned (.bool true) ∧ BoX w' b P r ∧ Fr b [54, 42, 29, 58] w w' := by
  have q0 : (x.what == 0) = false := by simp only [beq_eq_false_iff_ne, ne_eq]; omega
  have q1 : (x.what == 1) = false := by simp only [beq_eq_false_iff_ne, ne_eq]; omega
  have q2 : (x.what == 2) = false := by simp only [beq_eq_false_iff_ne, ne_eq]; omega
  have q3 : (x.what == 3) = false := by simp only [beq_eq_false_iff_ne, ne_eq]; omega
  have q4 : (x.what == 4) = false := by simp only [beq_eq_false_iff_ne, ne_eq]; omega
  have q5 : (x.what == 5) = false := by simp only [beq_eq_false_iff_ne, ne_eq]; omega
  have q6 : (x.what == 6) = false := by simp only [beq_eq_false_iff_ne, ne_eq]; omega
  clear hk
  obtain ⟨B, L2, hg', ho1, ho2⟩ := has_two h.gd x.pid x.fst
  have HV : Hid (Bo (w.alloc (spO x)) b P r L) := h.below (below_one w _)
  have HX : Hid ((w.alloc (spO x)).heap[w.heap.size]? = some (spO x)) := heap_last w _
  have HFV : Hid (Fr b [54, 42, 29, 58] w (w.alloc (spO x))) := Fr.of_below _ (below_one w _) h.lob
  have HG' := hid hg'
  clear h hg'
  have HO1 : Hid (∀ W, Lb W b P L → Calls Try.prog 14 #[pq P, i64 x.pid, i64 x.fst] W fun e' w' => e' = .returned (.bool B) ∧ Lb w' b P L2 ∧ Fr b [54, 42] W w') := fun W hW => ho1 W b P hW
  have HO2 : Hid (∀ W, Rb W b r L → Calls Try.prog 15 #[pq r, i64 x.pid, i64 x.fst] W fun e' w' => e' = .returned (.bool B) ∧ Rb w' b r L2 ∧ Fr b [29, 58] W w') := fun W hW => ho2 W b r hW
  clear ho1 ho2
  go_enter Try.func10, Try.ntmps10
  go_upto_region 17 with fail
  obtain ⟨X, hX⟩ : ∃ X, X = w.heap.size := ⟨_, rfl⟩
  rw [← hX] at HX ⊢
  generalize w.alloc (spO x) = V at *
  clear hX
  have HS : Hid ((fun W : World => W.heap[X]? = some (spO x)) V.drew) := HX.out
  have HVd : Hid (Bo V.drew b P r L) := ⟨by obtain ⟨v, h1, h2, h3⟩ := HV.out.lb; exact ⟨v, h1, h2, own_keep h3 (fun _ _ h => h)⟩, by obtain ⟨h1, ao, cap, h2, h3⟩ := HV.out.rb; exact ⟨h1, ao, cap, h2, own_keep h3 (fun _ _ h => h)⟩, HV.out.gd⟩
  refine wp_region_noPanic ?_
  refine wp_region_last (fun W : World => W.heap[X]? = some (spO x)) 13 (by kernel_rfl) ?_
  refine wpL_take 0 102 (pq P) [] rfl rfl (by kernel_rfl) (by decide) (by kernel_rfl) (by kernel_rfl) (by kernel_rfl) (fun _ _ _ h => h) HS.out (by rfl) (fun W hW => by obtain ⟨y0, y1, y2, y3⟩ := four_cells hW; go_simp) ?_
  simp only [Act.put, List.setIfInBounds_toArray, List.set_cons_zero, List.set_cons_succ]
  refine wpL_take 1 103 (.pointer (some ⟨X, 1, none⟩)) [] rfl rfl (by kernel_rfl) (by decide) (by kernel_rfl) (by kernel_rfl) (by kernel_rfl) (fun _ _ _ h => h) HS.out (by rfl) (fun W hW => by obtain ⟨y0, y1, y2, y3⟩ := four_cells hW; go_simp) ?_
  simp only [Act.put, List.setIfInBounds_toArray, List.set_cons_zero, List.set_cons_succ]
  refine wpL_take 2 104 (i64 x.pid) [] rfl rfl (by kernel_rfl) (by decide) (by kernel_rfl) (by kernel_rfl) (by kernel_rfl) (fun _ _ _ h => h) HS.out (by rfl) (fun W hW => by obtain ⟨y0, y1, y2, y3⟩ := four_cells hW; go_simp) ?_
  simp only [Act.put, List.setIfInBounds_toArray, List.set_cons_zero, List.set_cons_succ]
  refine wpL_take 3 105 (.pointer (some ⟨X, 2, none⟩)) [] rfl rfl (by kernel_rfl) (by decide) (by kernel_rfl) (by kernel_rfl) (by kernel_rfl) (fun _ _ _ h => h) HS.out (by rfl) (fun W hW => by obtain ⟨y0, y1, y2, y3⟩ := four_cells hW; go_simp) ?_
  simp only [Act.put, List.setIfInBounds_toArray, List.set_cons_zero, List.set_cons_succ]
  refine wpL_take 4 106 (i64 x.fst) [] rfl rfl (by kernel_rfl) (by decide) (by kernel_rfl) (by kernel_rfl) (by kernel_rfl) (fun _ _ _ h => h) HS.out (by rfl) (fun W hW => by obtain ⟨y0, y1, y2, y3⟩ := four_cells hW; go_simp) ?_
  simp only [Act.put, List.setIfInBounds_toArray, List.set_cons_zero, List.set_cons_succ]
  refine wpL_take 6 108 (pq r) [] rfl rfl (by kernel_rfl) (by decide) (by kernel_rfl) (by kernel_rfl) (by kernel_rfl) (fun _ _ _ h => h) HS.out (by rfl) (fun W hW => by obtain ⟨y0, y1, y2, y3⟩ := four_cells hW; go_simp) ?_
  simp only [Act.put, List.setIfInBounds_toArray, List.set_cons_zero, List.set_cons_succ]
  refine wpL_take 7 109 (.pointer (some ⟨X, 1, none⟩)) [] rfl rfl (by kernel_rfl) (by decide) (by kernel_rfl) (by kernel_rfl) (by kernel_rfl) (fun _ _ _ h => h) HS.out (by rfl) (fun W hW => by obtain ⟨y0, y1, y2, y3⟩ := four_cells hW; go_simp) ?_
  simp only [Act.put, List.setIfInBounds_toArray, List.set_cons_zero, List.set_cons_succ]
  refine wpL_take 8 110 (i64 x.pid) [] rfl rfl (by kernel_rfl) (by decide) (by kernel_rfl) (by kernel_rfl) (by kernel_rfl) (fun _ _ _ h => h) HS.out (by rfl) (fun W hW => by obtain ⟨y0, y1, y2, y3⟩ := four_cells hW; go_simp) ?_
  simp only [Act.put, List.setIfInBounds_toArray, List.set_cons_zero, List.set_cons_succ]
  refine wpL_take 9 111 (.pointer (some ⟨X, 2, none⟩)) [] rfl rfl (by kernel_rfl) (by decide) (by kernel_rfl) (by kernel_rfl) (by kernel_rfl) (fun _ _ _ h => h) HS.out (by rfl) (fun W hW => by obtain ⟨y0, y1, y2, y3⟩ := four_cells hW; go_simp) ?_
  simp only [Act.put, List.setIfInBounds_toArray, List.set_cons_zero, List.set_cons_succ]
  refine wpL_take 10 112 (i64 x.fst) [] rfl rfl (by kernel_rfl) (by decide) (by kernel_rfl) (by kernel_rfl) (by kernel_rfl) (fun _ _ _ h => h) HS.out (by rfl) (fun W hW => by obtain ⟨y0, y1, y2, y3⟩ := four_cells hW; go_simp) ?_
  simp only [Act.put, List.setIfInBounds_toArray, List.set_cons_zero, List.set_cons_succ]
  refine wpL_one 5 rfl (by kernel_rfl) (by rfl) (fun K hK => ?_)
  go_simp
  refine (HO1.out V.drew HVd.out.lb).mono ?_
  rintro e w2 ⟨rfl, hl2, hf2⟩
  have HL2 := hid hl2
  have HR2 := hid (HVd.out.rb.fr hf2 (by rfl) (by rfl))
  have HF2 : Hid (Fr b [54, 42, 29, 58] w w2) := HFV.out.trans ((show Fr b [54, 42, 29, 58] V V.drew from ⟨⟨rfl, rfl, rfl, Nat.le_refl _, fun _ _ => rfl⟩, fun _ _ h _ => h⟩).trans (fr_more hf2))
  have HX2 : Hid ((fun W : World => W.heap[X]? = some (spO x)) w2) := hf2.kept _ _ HX.out (by rfl)
  clear hl2 hf2
  go_simp
  refine hK.out _ _ (fun _ => HX2.out) ?_
  clear hK K
  refine wpL_one 11 rfl (by kernel_rfl) (by rfl) (fun K hK => ?_)
  go_simp
  refine (HO2.out w2 HR2.out).mono ?_
  rintro e w3 ⟨rfl, hr3, hf3⟩
  have HB3 : Hid (BoX w3 b P r) := ⟨L2, HL2.out.fr hf3 (by rfl) (by rfl), hr3, HG'.out⟩
  have HF3 : Hid (Fr b [54, 42, 29, 58] w w3) := HF2.out.trans (fr_more2 hf3)
  have HX3 : Hid ((fun W : World => W.heap[X]? = some (spO x)) w3) := hf3.kept _ _ HX2.out (by rfl)
  clear hr3 hf3
  go_simp
  refine hK.out _ _ (fun _ => HX3.out) ?_
  clear hK K
  refine wpL_take 12 114 (.bool true) [] rfl rfl (by kernel_rfl) (by decide) (by kernel_rfl) (by kernel_rfl) (by kernel_rfl) (fun _ _ _ h => h) HX3.out (by rfl) (fun W hW => by go_simp) ?_
  simp only [Act.put, List.setIfInBounds_toArray, List.set_cons_zero, List.set_cons_succ]
  refine wpL_one 13 rfl (by kernel_rfl) (by rfl) (fun K hK => ?_)
  go_simp
  refine hK.out _ _ (fun h => absurd rfl h) ?_
  clear hK K
  refine wpL_done (by kernel_rfl) ?_
  refine NoPanic.normal ?_
  go_wp2_with fail
  go_ret
  exact ⟨rfl, HB3.out, HF3.out⟩
theorem does_ok (w : World) (b P r : Nat) (x : Sp) (h : BoX w b P r) : Calls Try.prog 10 #[pq P, pq r, x.v] w fun e w' => e = .returned (.bool true) ∧ BoX w' b P r ∧ Fr b [54, 42, 29, 58] w w' := by
  obtain ⟨L, h⟩ := h
  by_cases h0 : x.what = 0
  · exact does0 w b P r L x h h0
  by_cases h1 : x.what = 1
  · exact does1 w b P r L x h h1
  by_cases h2 : x.what = 2
  · exact does2 w b P r L x h h2
  by_cases h3 : x.what = 3
  · exact does3 w b P r L x h h3
  by_cases h4 : x.what = 4
  · exact does4 w b P r L x h h4
  by_cases h5 : x.what = 5
  · exact does5 w b P r L x h h5
  by_cases h6 : x.what = 6
  · exact does6 w b P r L x h h6
  exact does7 w b P r L x h (by omega)
end Go.Proofs.Ytmebkpdijamdgaa
