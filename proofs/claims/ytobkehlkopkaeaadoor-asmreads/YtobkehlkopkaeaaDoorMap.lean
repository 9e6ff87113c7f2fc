/- A map whose keys are labels and whose elements are spots: looked up, and written at a new key; no statement is proved in this text. -/
import Derived.Test.YtobkehlkopkaeaaDoorForms
import Derived.MapKept
import Derived.ChangeMaps5
namespace Go.Proofs.YtobkehlkopkaeaaDoor
open Go.ChangeShapes Go.WideShapes Go.ChangeAt Go.RowKit Go.ChangeMaps Go.MapKept
set_option maxRecDepth 100000

abbrev spotV (s : Nat × Nat) : Value := .agg #[i64 s.1, i64 s.2]
theorem chkS (em : Bool) (s : ByteArray) (w : World) : (Instr.checkKey em 10000 9 (.string s)).run Tryd.prog w = .ok () w := by kernel_rfl
theorem ba_beq (x y : Bs) : ((⟨x.toArray⟩ : ByteArray) == (⟨y.toArray⟩ : ByteArray)) = (y == x) := by
  have e : ((⟨x.toArray⟩ : ByteArray) == (⟨y.toArray⟩ : ByteArray)) = (x.toArray == y.toArray) := by
    first
      | rfl
      | (simp only [BEq.beq]; unfold instBEqByteArray.beq; rfl)
  rw [e, Bool.eq_iff_iff]
  simp only [beq_iff_eq]
  constructor
  · intro h
    exact (congrArg Array.toList h).symm
  · rintro rfl
    rfl
theorem fnow (x : Bs) : ∀ (M : Labs) (es : List MapEntry) (i : Nat), es.map (fun e => (e.key, e.val)) = M.map (fun p => (str p.1, spotV p.2)) →
    (lookL M x = none ∧ Instr.findNow .string (str x) es i = some none) ∨ ∃ j p, lookL M x = some p ∧ Instr.findNow .string (str x) es i = some (some (j, spotV p))
  | [], es, i, h => by
    obtain rfl : es = [] := by simpa using h
    exact Or.inl ⟨rfl, rfl⟩
  | q :: M, [], i, h => by simp at h
  | q :: M, e :: es, i, h => by
    simp only [List.map_cons, List.cons.injEq, Prod.mk.injEq] at h
    obtain ⟨⟨hk, hv⟩, ht⟩ := h
    have hsame : Instr.sameNow .string (str x) e.key = some (q.1 == x) := by rw [hk]; exact congrArg some (ba_beq x q.1)
    by_cases hq : (q.1 == x) = true
    · refine Or.inr ⟨i, q.2, ?_, ?_⟩
      · unfold lookL; rw [List.find?_cons, hq]; rfl
      · unfold Instr.findNow; rw [hsame, hq, hv]
    · have hq2 : (q.1 == x) = false := by simpa using hq
      have hl : lookL (q :: M) x = lookL M x := by unfold lookL; rw [List.find?_cons, hq2]
      have hf : Instr.findNow .string (str x) (e :: es) i = Instr.findNow .string (str x) es (i + 1) := by conv => lhs; unfold Instr.findNow; rw [hsame, hq2]
      rw [hl, hf]
      exact fnow x M es (i + 1) ht
/-- Block b is a map that holds M, in its order. -/
def MapS (w : World) (b : Nat) (M : Labs) : Prop := ∃ es clock, w.heap[b]? = some (.map es clock) ∧ es.toList.map (fun e => (e.key, e.val)) = M.map (fun p => (str p.1, spotV p.2))
theorem MapS.lt {w : World} {b : Nat} {M : Labs} (h : MapS w b M) : b < w.heap.size := by
  obtain ⟨es, clock, hb, _⟩ := h
  exact (Array.getElem?_eq_some_iff.1 hb).1
theorem MapS.kept {w w' : World} {b : Nat} {M : Labs} (h : MapS w b M) (hb : w'.heap[b]? = w.heap[b]?) : MapS w' b M := by
  obtain ⟨es, clock, h1, h2⟩ := h
  exact ⟨es, clock, hb.trans h1, h2⟩
theorem MapS.below {w w' : World} {b : Nat} {M : Labs} (h : MapS w b M) (hb : Below w.heap.size w w') : MapS w' b M := h.kept (hb.block _ h.lt)
def lookR (M : Labs) (x : Bs) (c : Bool) : Value := if c then .tuple #[spotV ((lookL M x).getD (0, 0)), .bool (lookL M x).isSome] else spotV ((lookL M x).getD (0, 0))
theorem zero56 (w : World) : (zeroValue 56).run Tryd.prog w = .ok (spotV (0, 0)) w := by kernel_rfl
theorem MapS.lkup {w : World} {b : Nat} {M : Labs} (h : MapS w b M) (x : Bs) (c : Bool) : (Instr.lookup 46 (.map (some b)) (str x) c).run Tryd.prog w = .ok (lookR M x c) w := by
  obtain ⟨es, clock, hb, h1⟩ := h
  rcases fnow x M es.toList 0 h1 with ⟨hl, hf⟩ | ⟨j, p, hl, hf⟩
  · have f1 := run_findKey (P := Tryd.prog) (w := w) Tryd.underlying9 hf
    unfold lookR
    rw [hl]
    simp [Instr.lookup, run_underlying Tryd.underlying46, MapKept.run_getObj_map hb, chkS, f1, Result.andThen]
    cases c <;> rfl
  · have f1 := run_findKey (P := Tryd.prog) (w := w) Tryd.underlying9 hf
    unfold lookR
    rw [hl]
    simp [Instr.lookup, run_underlying Tryd.underlying46, MapKept.run_getObj_map hb, chkS, f1, Result.andThen]
theorem MapS.put {w : World} {b : Nat} {M : Labs} (h : MapS w b M) (x : Bs) (s : Nat × Nat) (hn : lookL M x = none) :
    ∃ w', (Instr.mapUpdate 46 (.map (some b)) (str x) (spotV s)).run Tryd.prog w = .ok () w' ∧ MapS w' b (M ++ [(x, s)]) ∧ w'.os = w.os ∧ w'.tape = w.tape ∧ w'.output = w.output ∧ w'.heap.size = w.heap.size ∧ ∀ k, k ≠ b → w'.heap[k]? = w.heap[k]? := by
  obtain ⟨es, clock, hb, h1⟩ := h
  rcases fnow x M es.toList 0 h1 with ⟨hl, hf⟩ | ⟨j, p, hl, hf⟩
  · have f1 := run_findKey (P := Tryd.prog) (w := w) Tryd.underlying9 hf
    refine ⟨setBlock w b (.map (es.push ⟨str x, spotV s, clock⟩) (clock + 1)), ?_, ⟨_, _, heap_setBlock_same hb _, ?_⟩, rfl, rfl, rfl, by simp [setBlock], fun k hk => heap_setBlock_other hb _ hk⟩
    · simp [Instr.mapUpdate, run_underlying Tryd.underlying46, MapKept.run_getObj_map hb, chkS, f1, MapKept.run_setObj_map _ hb, Result.andThen, setBlock]
    · simp [h1]
  · rw [hn] at hl
    cases hl
theorem map_made (w : World) : MapS (w.alloc (.map #[] 0)) w.heap.size [] := ⟨#[], 0, heap_at rfl _, rfl⟩
end Go.Proofs.YtobkehlkopkaeaaDoor
