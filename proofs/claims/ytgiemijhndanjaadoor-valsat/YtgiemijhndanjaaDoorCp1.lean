/- Copy: a step through a row; no statement is proved in this text. -/
import Derived.Test.YtgiemijhndanjaaDoorCp0
namespace Go.Proofs.YtgiemijhndanjaaDoor
open Go.ChangeShapes Go.WideShapes Go.ChangeAt Go.RowKit Go.Deep

theorem set_at {W : World} {g o : Nat} {C : Array Value} {t : TypeId} (h : W.heap[g]? = some (.cells C t)) (v : Value) (o' : Nat) (ho : o' ≠ o) : (W.setCell ⟨g, o, none⟩ v).cell? ⟨g, o', none⟩ = W.cell? ⟨g, o', none⟩ := by
  rw [blk_cell (heap_setCell_same W g o C t v h), blk_cell h]
  rw [Array.getElem?_setIfInBounds_ne (Ne.symm ho)]
theorem set_on {W : World} {g o : Nat} {C : Array Value} {t : TypeId} (h : W.heap[g]? = some (.cells C t)) (v u : Value) (ho : W.cell? ⟨g, o, none⟩ = some u) : (W.setCell ⟨g, o, none⟩ v).cell? ⟨g, o, none⟩ = some v := by
  rw [blk_cell h] at ho
  have hlt : o < C.size := (Array.getElem?_eq_some_iff.1 ho).1
  rw [blk_cell (heap_setCell_same W g o C t v h)]
  rw [Array.getElem?_setIfInBounds_self_of_lt hlt]
set_option maxHeartbeats 1600000 in
theorem cq_step {w wr W' : World} {lo : Nat} {D P : List Er} {x : Er} {f f' : Nat → Er} {i : Nat} (h : CqI w wr lo D P x f i) (hW : Below wr.heap.size wr W') (V : Vl) (hV : x.2.2[i]? = some V) (hf : ∀ j, j < i → f' j = f j)
    (hn : V.kids.length ≠ 0 → (f' i).2.2 = V.kids ∧ (f' i).1 = wr.heap.size ∧ V.kids.length ≤ (f' i).2.1 ∧ (f' i).2.1 ≤ maxLen ∧ (∃ C, W'.heap[(f' i).1]? = some (.cells C 24)) ∧ RowK W' (f' i).1 V.kids (fun U kv => Vd w (fun b => b < lo) U kv) ∧ ∀ U ∈ V.kids, U.s.length ≤ maxLen) :
    CqI w (W'.setCell ⟨x.1, i * 4 + 3, none⟩ (kvF V (f' i))) lo D P x f' (i + 1) := by
  obtain ⟨gx, _, _, C, hC⟩ := h.blk x (by simp)
  have hgl := blk_lt hC
  have hC' : W'.heap[x.1]? = some (.cells C 24) := by rw [hW.block _ hgl]; exact hC
  have hloz : lo ≤ wr.heap.size := by omega
  have hE : newE x.2.2 f' (i + 1) = newE x.2.2 f i ++ (if V.kids.length = 0 then [] else [f' i]) := by
    simp only [newE, hV]
    rw [newE_same x.2.2 f' f i hf]
  have hlt : ∀ y ∈ D ++ (P ++ [x]) ++ newE x.2.2 f i, y.1 < wr.heap.size := fun y hy => by
    obtain ⟨_, _, _, C, hC⟩ := h.blk y hy
    exact blk_lt hC
  have hnx : ∀ y, (y ∈ D ∨ y ∈ P ∨ y ∈ newE x.2.2 f i) → y.1 ≠ x.1 := by
    intro y hy e
    have hnd := h.nd
    have hp : (D ++ (P ++ [x]) ++ newE x.2.2 f i).Perm (x :: (D ++ (P ++ newE x.2.2 f i))) := by
      have h1 : (D ++ (P ++ [x]) ++ newE x.2.2 f i) = (D ++ P) ++ x :: newE x.2.2 f i := by simp
      rw [h1]
      have h2 : ((D ++ P) ++ x :: newE x.2.2 f i).Perm (x :: ((D ++ P) ++ newE x.2.2 f i)) := List.perm_middle
      simpa [List.append_assoc] using h2
    have hnd2 := ((hp.map (·.1)).nodup_iff).1 hnd
    rw [List.map_cons, List.nodup_cons] at hnd2
    refine hnd2.1 (List.mem_map.2 ⟨y, ?_, e⟩)
    simp only [List.mem_append]
    grind
  have hkeep : ∀ k, k < wr.heap.size → k ≠ x.1 → (W'.setCell ⟨x.1, i * 4 + 3, none⟩ (kvF V (f' i))).heap[k]? = wr.heap[k]? := fun k hk hne => by
    rw [Below.heap_setCell _ _ _ _ hne]; exact hW.block k hk
  have hrange : ∀ (j : Nat) (U : Vl) (kv : Value), j ≠ i → wr.rangeAt x.1 (j * 4) (c4 U kv) → (W'.setCell ⟨x.1, i * 4 + 3, none⟩ (kvF V (f' i))).rangeAt x.1 (j * 4) (c4 U kv) := by
    intro j U kv hji hr k v hv
    have hk : k < 4 := by have := (List.getElem?_eq_some_iff.1 hv).1; simpa using this
    rw [set_at hC' _ _ (by omega), World.cell?_of_block (w := wr) (hW.block _ hgl)]
    exact hr k v hv
  obtain ⟨kv0, hr0, _⟩ := h.rr i V hV (Nat.le_refl _)
  refine ⟨(h.b.trans (hW.mono hloz)).setCell (p := ⟨x.1, i * 4 + 3, none⟩) gx _, ?_, fun y hy => ?_, fun y hy => ?_, fun j U hU hj => ?_, fun j U hU hj => ?_, fun y hy => ?_, ?_, fun y hy => ?_⟩
  · have h1 := h.z
    have h2 := hW.size
    have h3 : (W'.setCell ⟨x.1, i * 4 + 3, none⟩ (kvF V (f' i))).heap.size = W'.heap.size := by simp [World.setCell]
    omega
  · exact (h.done y hy).keep (hkeep _ (hlt y (by simp [hy])) (hnx y (Or.inl hy))) (fun _ _ hk => hk)
  · rw [hE] at hy
    by_cases hy' : y ∈ P ++ newE x.2.2 f i
    · exact (h.pend y hy').keep (hkeep _ (hlt y (by simp only [List.mem_append] at hy' ⊢; grind)) (hnx y (by simp only [List.mem_append] at hy'; grind))) (fun _ _ hk => hk)
    · have hy2 : y ∈ (if V.kids.length = 0 then [] else [f' i]) := by simp only [List.mem_append] at hy hy' ⊢; grind
      split at hy2
      · cases hy2
      · rename_i hk
        rw [List.mem_singleton.1 hy2]
        obtain ⟨g1, g2, _, _, _, g6, _⟩ := hn hk
        rw [g1]
        refine g6.keep ?_ (fun _ _ hk => hk)
        rw [Below.heap_setCell _ _ _ _ (show (f' i).1 ≠ x.1 by omega)]
  · by_cases hji : j = i
    · subst hji
      rw [hV] at hU
      cases hU
      refine ⟨fun k v hv => ?_, fun hk => (hn hk).1⟩
      have hk : k < 4 := by have := (List.getElem?_eq_some_iff.1 hv).1; simpa using this
      by_cases hk3 : k = 3
      · subst hk3
        have hv' : v = kvF V (f' j) := by simpa using hv.symm
        rw [hv']
        exact set_on hC' _ kv0 (by rw [World.cell?_of_block (w := wr) (hW.block _ hgl)]; exact hr0 3 _ rfl)
      · rw [set_at hC' _ _ (by omega), World.cell?_of_block (w := wr) (hW.block _ hgl)]
        refine hr0 k v ?_
        match k, hk, hk3, hv with
        | 0, _, _, hv | 1, _, _, hv | 2, _, _, hv => simpa using hv
        | 3, _, h3, _ => exact absurd rfl h3
        | k + 4, h4, _, _ => omega
    · obtain ⟨g1, g2⟩ := h.rl j U hU (by omega)
      rw [hf j (by omega)]
      exact ⟨hrange j U _ hji g1, g2⟩
  · obtain ⟨kv, g1, g2⟩ := h.rr j U hU (by omega)
    exact ⟨kv, hrange j U kv (by omega) g1, g2⟩
  · rw [hE] at hy
    by_cases hy' : y ∈ D ++ (P ++ [x]) ++ newE x.2.2 f i
    · obtain ⟨g1, g2, g3, C2, g4⟩ := h.blk y hy'
      refine ⟨g1, g2, g3, ?_⟩
      by_cases hyx : y.1 = x.1
      · rw [hyx]
        exact ⟨_, heap_setCell_same W' x.1 (i * 4 + 3) C 24 _ hC'⟩
      · exact ⟨C2, by rw [hkeep _ (hlt y hy') hyx]; exact g4⟩
    · have hy2 : y ∈ (if V.kids.length = 0 then [] else [f' i]) := by simp only [List.mem_append] at hy hy' ⊢; grind
      split at hy2
      · cases hy2
      · rename_i hk
        rw [List.mem_singleton.1 hy2]
        obtain ⟨g1, g2, g3, g4, ⟨C2, g5⟩, _, _⟩ := hn hk
        refine ⟨by omega, by rw [g1]; exact g3, g4, C2, ?_⟩
        rw [Below.heap_setCell _ _ _ _ (show (f' i).1 ≠ x.1 by omega)]
        exact g5
  · rw [hE, ← List.append_assoc, List.map_append]
    split
    · simpa using h.nd
    · rename_i hk
      obtain ⟨_, g2, _⟩ := hn hk
      refine List.nodup_append.2 ⟨h.nd, by simp, ?_⟩
      intro a ha b hb
      obtain ⟨y, hy, rfl⟩ := List.mem_map.1 ha
      have hb' : b = (f' i).1 := by simpa using hb
      have := hlt y hy
      omega
  · rw [hE] at hy
    by_cases hy' : y ∈ D ++ (P ++ [x]) ++ newE x.2.2 f i
    · exact h.ss y hy'
    · have hy2 : y ∈ (if V.kids.length = 0 then [] else [f' i]) := by simp only [List.mem_append] at hy hy' ⊢; grind
      split at hy2
      · cases hy2
      · rename_i hk
        rw [List.mem_singleton.1 hy2]
        obtain ⟨g1, _, _, _, _, _, g7⟩ := hn hk
        rw [g1]
        exact g7
end Go.Proofs.YtgiemijhndanjaaDoor
