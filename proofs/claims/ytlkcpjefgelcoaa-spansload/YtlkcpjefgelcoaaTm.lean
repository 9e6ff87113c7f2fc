/- A table of spans in memory: its 192 cells, rows and pages of them; no statement is proved in this text. -/
import Derived.Laws.CopyRow
import Derived.Test.YtlkcpjefgelcoaaDd
import Derived.Test.YtlkcpjefgelcoaaQu
namespace Go.Proofs.Ytlkcpjefgelcoaa
open Go.ChangeShapes Go.WideShapes Go.ChangeAt Go.RowKit Go.Deep
attribute [local go_sem ↓] Go.wp_at_zero Go.wp_at_succ

abbrev Gr := Nat → Nat → Int × Int
def cl (G : Gr) (i : Nat) : Int := if i % 2 = 0 then (G (i / 32) (i % 32 / 2)).1 else (G (i / 32) (i % 32 / 2)).2
def tcs (G : Gr) : List Value := (List.range 192).map fun i => i64 (cl G i)
theorem tcs_len (G : Gr) : (tcs G).length = 192 := by simp [tcs]
theorem tcs_get (G : Gr) (i : Nat) (h : i < 192) : (tcs G)[i]? = some (i64 (cl G i)) := by simp [tcs, h]
theorem cl_0 (G : Gr) (r g : Nat) (h : g < 16) : cl G (r * 32 + g * 2) = (G r g).1 := by
  unfold cl; rw [if_pos (by omega), show (r * 32 + g * 2) / 32 = r by omega, show (r * 32 + g * 2) % 32 / 2 = g by omega]
theorem cl_1 (G : Gr) (r g : Nat) (h : g < 16) : cl G (r * 32 + g * 2 + 1) = (G r g).2 := by
  unfold cl; rw [if_neg (by omega), show (r * 32 + g * 2 + 1) / 32 = r by omega, show (r * 32 + g * 2 + 1) % 32 / 2 = g by omega]
theorem cl_ext {G G' : Gr} (h : ∀ r g, r < 6 → g < 16 → G r g = G' r g) (i : Nat) (hi : i < 192) : cl G i = cl G' i := by
  unfold cl; rw [h _ _ (by omega) (by omega)]
theorem tcs_ext {G G' : Gr} (h : ∀ r g, r < 6 → g < 16 → G r g = G' r g) : tcs G = tcs G' := by
  unfold tcs
  refine List.map_congr_left fun i hi => ?_
  rw [cl_ext h i (List.mem_range.1 hi)]
theorem tcs_one (G : Gr) : ∀ u ∈ tcs G, u.oneCell' = true := by
  intro u hu
  obtain ⟨x, _, rfl⟩ := List.mem_map.1 hu
  rfl
/-- A list that has these cells is that list. -/
theorem tcs_of {l : List Value} {G : Gr} (hl : l.length = 192) (h : ∀ i, i < 192 → l[i]? = some (i64 (cl G i))) : l = tcs G := by
  apply List.ext_getElem?
  intro i
  by_cases hi : i < 192
  · rw [h i hi, tcs_get G i hi]
  · rw [List.getElem?_eq_none (by omega), List.getElem?_eq_none (by rw [tcs_len]; omega)]
/-- A table in memory. -/
structure Tg (w : World) (t : Nat) (G : Gr) : Prop where
  blk : w.heap[t]? = some (.cells (tcs G).toArray 67)
theorem Tg.lt {w : World} {t : Nat} {G : Gr} (h : Tg w t G) : t < w.heap.size := blk_lt h.blk
theorem Tg.below {w w' : World} {t : Nat} {G : Gr} (h : Tg w t G) (hb : Below w.heap.size w w') : Tg w' t G := ⟨blk_below h.blk hb⟩
theorem Tg.alloc {w : World} {t : Nat} {G : Gr} (h : Tg w t G) (o : Obj) : Tg (w.alloc o) t G := ⟨blk_alloc h.blk o⟩
theorem Tg.ext {w : World} {t : Nat} {G G' : Gr} (h : Tg w t G) (he : ∀ r g, r < 6 → g < 16 → G r g = G' r g) : Tg w t G' := ⟨by rw [h.blk, tcs_ext he]⟩
theorem Tg.cell {w : World} {t : Nat} {G : Gr} (h : Tg w t G) (i : Nat) (hi : i < 192) : w.cell? ⟨t, i, none⟩ = some (i64 (cl G i)) := by
  rw [blk_cell h.blk, List.getElem?_toArray, tcs_get G i hi]
theorem Tg.frz {w : World} {t : Nat} {G : Gr} (h : Tg w t G) (j : Nat) : w.frozen? ⟨t, j, none⟩ = false := blk_frozen h.blk j
theorem Tg.fst {w : World} {t : Nat} {G : Gr} (h : Tg w t G) (r g : Nat) (hr : r < 6) (hg : g < 16) : w.cell? ⟨t, r * 32 + g * 2, none⟩ = some (i64 (G r g).1) := by
  rw [h.cell _ (by omega), cl_0 G r g hg]
theorem Tg.snd {w : World} {t : Nat} {G : Gr} (h : Tg w t G) (r g : Nat) (hr : r < 6) (hg : g < 16) : w.cell? ⟨t, r * 32 + g * 2 + 1, none⟩ = some (i64 (G r g).2) := by
  rw [h.cell _ (by omega), cl_1 G r g hg]
/-- One page is set. -/
def updG (G : Gr) (r g : Nat) (c : Int × Int) : Gr := fun r' g' => if r' = r ∧ g' = g then c else G r' g'
theorem Tg.set {w : World} {t : Nat} {G : Gr} (h : Tg w t G) (r g : Nat) (_ : r < 6) (hg : g < 16) (a b : Int) : Tg ((w.setCell ⟨t, r * 32 + g * 2, none⟩ (i64 a)).setCell ⟨t, r * 32 + g * 2 + 1, none⟩ (i64 b)) t (updG G r g (a, b)) := by
  have h1 := heap_setCell_same w t (r * 32 + g * 2) _ 67 (i64 a) h.blk
  have h2 := heap_setCell_same _ t (r * 32 + g * 2 + 1) _ 67 (i64 b) h1
  constructor
  rw [h2]
  congr 2
  apply Array.toList_inj.1
  refine tcs_of (by simp [tcs_len]) fun i hi => ?_
  simp only [Array.toList_setIfInBounds, List.getElem?_set, List.length_set, tcs_len]
  have e0 := cl_0 (updG G r g (a, b)) r g hg
  have e1 := cl_1 (updG G r g (a, b)) r g hg
  simp only [updG, and_self, if_true] at e0 e1
  by_cases h1 : r * 32 + g * 2 + 1 = i
  · subst h1
    rw [if_pos rfl, if_pos (by omega)]
    exact congrArg (fun x => some (i64 x)) e1.symm
  · rw [if_neg h1]
    by_cases h0 : r * 32 + g * 2 = i
    · subst h0
      rw [if_pos rfl, if_pos (by omega)]
      exact congrArg (fun x => some (i64 x)) e0.symm
    · rw [if_neg h0, tcs_get G i hi]
      congr 2
      have hne : ¬(i / 32 = r ∧ i % 32 / 2 = g) := by omega
      unfold cl updG
      simp only [hne, if_false]
/-- The world behind that. -/
abbrev put2 (w : World) (t o : Nat) (a b : Int) : World := (w.setCell ⟨t, o, none⟩ (i64 a)).setCell ⟨t, o + 1, none⟩ (i64 b)
theorem put2_touch (w : World) (t o : Nat) (a b : Int) : Touch t w (put2 w t o a b) := ((Touch.refl t w).setCell rfl _).setCell rfl _
/-- A row of a table, as a value. -/
def rowv (F : Nat → Int × Int) : List Value := (List.range 32).map fun i => i64 (if i % 2 = 0 then (F (i / 2)).1 else (F (i / 2)).2)
theorem rowv_len (F : Nat → Int × Int) : (rowv F).length = 32 := by simp [rowv]
theorem rowv_get (F : Nat → Int × Int) (i : Nat) (h : i < 32) : (rowv F)[i]? = some (i64 (if i % 2 = 0 then (F (i / 2)).1 else (F (i / 2)).2)) := by simp [rowv, h]
theorem rowv_one (F : Nat → Int × Int) : ∀ u ∈ rowv F, u.oneCell' = true := by
  intro u hu
  obtain ⟨x, _, rfl⟩ := List.mem_map.1 hu
  rfl
theorem Tg.range {w : World} {t : Nat} {G : Gr} (h : Tg w t G) (r : Nat) (hr : r < 6) : w.rangeAt t (r * 32) (rowv (G r)) := fun j v hv => by
  have hj : j < 32 := by have := (List.getElem?_eq_some_iff.1 hv).1; rwa [rowv_len] at this
  rw [rowv_get _ j hj] at hv
  rw [h.cell _ (by omega), ← hv]
  unfold cl
  rw [show (r * 32 + j) % 2 = j % 2 by omega, show (r * 32 + j) / 32 = r by omega, show (r * 32 + j) % 32 / 2 = j / 2 by omega]
theorem under64 : Try.prog.underlying 64 = some (.array 16 62) := by kernel_rfl
theorem under82 : Try.prog.underlying 82 = some (.slice 62) := by kernel_rfl
theorem info64 : (Try.prog.info? 64).map (·.size) = some 32 := by kernel_rfl
theorem info62 : (Try.prog.info? 62).map (·.size) = some 2 := by kernel_rfl
theorem size62 (w : World) : (Go.sizeOf 62).run Try.prog w = .ok 2 w := by kernel_rfl
theorem Tg.load {w : World} {t : Nat} {G : Gr} (h : Tg w t G) (r : Nat) (hr : r < 6) : (loadVar 64 ⟨t, r * 32, none⟩).run Try.prog w = .ok (.agg (rowv (G r)).toArray) w :=
  run_loadVar_mid w t (r * 32) 64 (rowv (G r)) _ (h.range r hr) under64 rfl (by rw [info64, rowv_len])
/-- A page of a row by value. -/
theorem row_index (w : World) (F : Nat → Int × Int) (k : Nat) (hk : k < 16) : (Instr.index 64 (.agg (rowv F).toArray) (i64 k)).run Try.prog w = .ok (.agg #[i64 (F k).1, i64 (F k).2]) w := by
  have h0 := rowv_get F (k * 2) (by omega)
  have h1 := rowv_get F (k * 2 + 1) (by omega)
  rw [if_pos (by omega), show k * 2 / 2 = k by omega] at h0
  rw [if_neg (by omega), show (k * 2 + 1) / 2 = k by omega] at h1
  have hx : (rowv F).toArray.extract (k * 2) (k * 2 + 2) = #[i64 (F k).1, i64 (F k).2] := by
    apply Array.toList_inj.1
    apply List.ext_getElem?
    intro i
    rw [Array.toList_extract, List.extract_eq_take_drop]
    rcases i with _ | _ | i
    · simpa using h0
    · simpa using h1
    · rw [List.getElem?_eq_none (by rw [List.length_take]; omega)]
      simp
  simp only [Instr.index, asIntOf, run_underlying under64, Sem.run_bind, Sem.run_pure, Result.andThen_ok, Int.toNat_natCast]
  rw [if_pos ⟨by omega, by omega⟩]
  have ha : (isAgg 62).run Try.prog w = .ok true w := by kernel_rfl
  simp only [part, ha, size62, Sem.run_bind, Result.andThen_ok]
  rw [if_pos trivial]
  simp only [size62, hx, Sem.run_bind, Sem.run_pure, Result.andThen_ok]
/-- The pages of a span. -/
theorem pages_run (W : World) (t r f n : Nat) (hn : 1 ≤ n) (h : f + n ≤ 16) : (Instr.sliceAt 64 (.pointer (some ⟨t, r * 32, none⟩)) (some (i64 f)) (some (i64 (f + n : Nat))) none).run Try.prog W = .ok (.slice (some ⟨t, r * 32 + f * 2, none⟩) n (16 - f)) W := by
  simp only [Instr.sliceAt, run_underlying under64, Instr.sureAddr, Instr.sliceBounds, Instr.sliceBound, asIntOf, Sem.run_bind, Sem.run_pure, Result.andThen_ok, size62]
  rw [if_pos ⟨by omega, by omega⟩]
  simp only [Sem.run_pure, Result.andThen_ok, Int.toNat_natCast]
  rw [if_pos ⟨by omega, by omega⟩]
  simp only [Sem.run_pure, Result.andThen_ok]
  rw [if_neg (by omega), Addr.add_mid, show f + n - f = n by omega]
end Go.Proofs.Ytlkcpjefgelcoaa
