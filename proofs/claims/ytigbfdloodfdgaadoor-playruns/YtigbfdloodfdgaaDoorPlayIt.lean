/- Runs, as plain lists, and where Run keeps one; no statement is proved in this text. -/
import Derived.Test.YtigbfdloodfdgaaDoorPlayD8
import Derived.Test.YtigbfdloodfdgaaDoorCpuS5
namespace Go.Proofs.YtigbfdloodfdgaaDoor
open Go.ChangeShapes Go.WideShapes Go.ChangeAt Go.RowKit

/-- So many steps at most: how it ended (0: not yet), how many were done, what it has. -/
def itP (l : List UInt8) : Nat → Rn → Nat × Nat × Rn
  | 0, s => (0, 0, s)
  | n + 1, s => if (itP l n s).1 = 0 then ((stepP l (itP l n s).2.2).1, (itP l n s).2.1 + 1, (stepP l (itP l n s).2.2).2) else itP l n s
theorem itP_stay (l : List UInt8) (s : Rn) {n : Nat} (h : (itP l n s).1 ≠ 0) : ∀ d, itP l (n + d) s = itP l n s
  | 0 => rfl
  | d + 1 => by
    have := itP_stay l s h d
    show (if (itP l (n + d) s).1 = 0 then _ else itP l (n + d) s) = _
    rw [this, if_neg h]
theorem itP_next {l : List UInt8} {s t : Rn} {n j : Nat} (h : itP l n s = (0, j, t)) : itP l (n + 1) s = ((stepP l t).1, j + 1, (stepP l t).2) := by
  show (if (itP l n s).1 = 0 then _ else _) = _
  rw [h]
  rfl
theorem stepP_K (l : List UInt8) (s : Rn) : (stepP l s).2.K.length ≤ s.K.length + 1 := by
  unfold stepP doP
  repeat' split
  all_goals simp
abbrev Z33 : Obj := .cells #[i64 0, i64 0, Value.int .u16 0, Value.int .u16 0, Value.int .u16 0, Value.int .u16 0, Value.int .u16 0, Value.int .u16 0, Value.int .u16 0, Value.int .u16 0, Value.int .u16 0, .string ⟨#[]⟩, .slice none 0 0] 33
/-- Where Run keeps its run, and all else. -/
structure LoopAt (w : World) (b0 : Nat) (s : Rn) (wr : World) : Prop where
  tab : Tab wr
  d : DeedsAt (b0 + 2) (b0 + 1) wr
  rn : RnAt wr (b0 + 10) (b0 + 1) s
  dos : wr.heap[b0 + 9]? = some (.cells (deedsC (b0 + 2)).toArray 58 (0, 0))
  res : wr.heap[b0]? = some Z33
  hw : b0 + 10 ≤ wr.heap.size
  bel : Below b0 w wr
  pos : 0 < b0
theorem LoopAt.fr {w wr wr' : World} {b0 : Nat} {s s' : Rn} (h : LoopAt w b0 s wr) (hf : Fr (b0 + 10) (b0 + 1) wr wr') (hr : RnAt wr' (b0 + 10) (b0 + 1) s') : LoopAt w b0 s' wr' := by
  have hp := h.pos
  refine ⟨fun k hk => ?_, h.d.fr hf (by omega) (by omega), hr, (hf.block _ (by omega) (by omega)).trans h.dos, (hf.block _ (by omega) (by omega)).trans h.res, Nat.le_trans h.hw hf.size, ?_, hp⟩
  · rw [hf.cell (p := ⟨0, k * 2, none⟩) (by show 0 < b0 + 10; omega) (by show 0 ≠ b0 + 1; omega), hf.cell (p := ⟨0, k * 2 + 1, none⟩) (by show 0 < b0 + 10; omega) (by show 0 ≠ b0 + 1; omega)]
    exact h.tab k hk
  · exact ⟨hf.os.trans h.bel.os, hf.tape.trans h.bel.tape, hf.output.trans h.bel.output, Nat.le_trans h.bel.size hf.size, fun k hk => (hf.block k (by omega) (by omega)).trans (h.bel.block k hk)⟩
theorem LoopAt.below {w wr wr' : World} {b0 : Nat} {s : Rn} (h : LoopAt w b0 s wr) (hf : Below wr.heap.size wr wr') : LoopAt w b0 s wr' :=
  h.fr (Fr.of_below (hf.mono h.hw)) (h.rn.frk hf (by omega) h.hw)
theorem LoopAt.ready {w wr : World} {b0 : Nat} {s : Rn} (h : LoopAt w b0 s wr) {D : List Nat} (hD : Rg D) : Ready wr (b0 + 10) (b0 + 2) (b0 + 1) D s := ⟨hD, h.d, by omega, by omega, h.hw, h.rn⟩
/-- Registers and an act, in new blocks, stored behind their making. -/
theorem two_stored (v : World) {D : List Nat} (hD : Rg D) (x : Ac) : Row (((((v.alloc Z9).alloc (Z6 61)).setCells v.heap.size 0 (cpC D))).setCells (v.heap.size + 1) 0 (acC x)) v.heap.size D ∧ (((((v.alloc Z9).alloc (Z6 61)).setCells v.heap.size 0 (cpC D))).setCells (v.heap.size + 1) 0 (acC x)).heap[v.heap.size + 1]? = some (.cells (acC x).toArray 61 (0, 0)) ∧ Below v.heap.size v (((((v.alloc Z9).alloc (Z6 61)).setCells v.heap.size 0 (cpC D))).setCells (v.heap.size + 1) 0 (acC x)) := by
  have h0 : ((v.alloc Z9).alloc (Z6 61)).heap[v.heap.size]? = some (.cells ([] ++ (cpC z9 ++ [])).toArray 30 (0, 0)) := by rw [Below.heap_alloc _ _ _ (by simp)]; exact heap_at rfl _
  have h1 := heap_mid [] (cpC D) (cpC z9) [] _ (by rw [cpC_len, cpC_len, hD.len]; rfl) h0
  have h2 : ((((v.alloc Z9).alloc (Z6 61)).setCells v.heap.size 0 (cpC D))).heap[v.heap.size + 1]? = some (.cells ([] ++ ([i64 0, i64 0, i64 0, i64 0, i64 0, i64 0] ++ [])).toArray 61 (0, 0)) := by rw [heap_sc_ne _ _ (by omega)]; exact heap_at (by simp) _
  have h3 := heap_mid [] (acC x) [i64 0, i64 0, i64 0, i64 0, i64 0, i64 0] [] _ rfl h2
  refine ⟨⟨?_⟩, ?_, ?_⟩
  · rw [heap_sc_ne _ _ (by omega)]
    simpa using h1
  · simpa using h3
  · exact Below.cellsAt _ _ _ _ (by omega) (Below.cellsAt _ _ _ _ (Nat.le_refl _) ((below_one v _).alloc (by simp) _))
end Go.Proofs.YtigbfdloodfdgaaDoor
