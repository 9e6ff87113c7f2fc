/- Steps out of what was read; no statement is proved in this text. -/
import Derived.Test.YtaapiffglfppnaaNi
namespace Go.Proofs.Ytaapiffglfppnaa
open Go.ChangeShapes Go.WideShapes Go.ChangeAt Go.RowKit Go.Deep

theorem i64_of {n : Int} (h : (Lit.int .i64 n).wf = true) : -9223372036854775808 ≤ n ∧ n ≤ 9223372036854775807 := by
  have hmin : IntKind.i64.min = -9223372036854775808 := rfl
  have hmax : IntKind.i64.max = 9223372036854775807 := rfl
  simp only [Lit.wf, Bool.and_eq_true, decide_eq_true_eq] at h
  omega

/-- A slice whose elements have k cells each: its cells, as a function of the place. -/
theorem slice_read {H : Type} {enc : TypeId × Value → H} {W : World} {spare : Nat → Bool} {held : Bool} {a : Option Addr} {len cap : Nat} {d : DataW H} {ps : List MemPlace} {t e : TypeId} {k : Nat} {α : Type} [Inhabited α] (C : α → List Value) (R : α → Prop)
    (ht : Try.prog.underlying t = some (.slice e)) (hk : Try.prog.cellsOf e = k) (hpos : ∀ x, 0 < (C x).length)
    (hR : ∀ {fuel : Nat} {cs : List Value} {x : DataW H × List MemPlace}, DataW.trod enc Try.prog W 0 spare held fuel e cs = some x → ∃ y, cs = C y ∧ R y)
    (h : DataW.Trod enc Try.prog W 0 spare held t (.slice a len cap) d ps) : len ≤ maxLen ∧ ∃ f : Nat → α, (∀ i, i < len → R (f i)) ∧ (len = 0 ∨ ∃ b off, a = some ⟨b, off, none⟩ ∧ b < W.heap.size ∧ ∀ i, i < len → W.rangeAt b (off + i * k) (C (f i))) := by
  obtain ⟨fuel, hf⟩ := h
  rcases Deep.open_slice ht hf with ⟨hcs, _⟩ | ⟨x, len', cap', m, n, D, Pl, hcs, _, hl, hm, hmm, _, hel⟩
  · simp [Value.cells] at hcs
    obtain ⟨rfl, rfl, rfl⟩ := hcs
    exact ⟨Nat.zero_le _, fun _ => default, fun i hi => absurd hi (by omega), Or.inl rfl⟩
  · simp [Value.cells] at hcs
    obtain ⟨rfl, rfl, rfl⟩ := hcs
    refine ⟨Nat.le_trans hl hm, ?_⟩
    have hlm : len ≤ m := by rw [hmm]; split <;> omega
    have hone : ∀ i, ∃ st : α, i < len → (R st ∧ ∀ j v, (C st)[j]? = some v → W.cell? ((x.add (i * k)).add j) = some v) := by
      intro i
      by_cases hi : i < len
      · obtain ⟨cs', hc, hr⟩ := hel i (by omega)
        rw [hk] at hc
        obtain ⟨y, rfl, hy⟩ := hR hr
        refine ⟨y, fun _ => ⟨hy, fun j v hv => ?_⟩⟩
        obtain ⟨_, hlen6, hcell⟩ := World.cells?_some hc
        rw [hcell j (by have := (List.getElem?_eq_some_iff.1 hv).1; rw [← hlen6]; exact this)]
        exact hv
      · exact ⟨default, fun h => absurd h hi⟩
    obtain ⟨f, hf⟩ := Classical.axiomOfChoice hone
    refine ⟨f, fun i hi => (hf i hi).1, ?_⟩
    by_cases h0 : len = 0
    · exact Or.inl h0
    · right
      obtain ⟨b, off, spot⟩ := x
      have hc := (hf 0 (by omega)).2 0 _ (List.getElem?_eq_getElem (hpos (f 0)))
      have hspot : spot = none := by simpa [Addr.add] using World.cell?_spot hc
      subst hspot
      have hlt := World.block_lt_of_cell? W _ hc
      rw [Addr.add_mid, Addr.add_mid] at hlt
      refine ⟨b, off, rfl, hlt, fun i hi j v hv => ?_⟩
      have := (hf i hi).2 j v hv
      rw [Addr.add_mid, Addr.add_mid] at this
      exact this


theorem list6 {α : Type} : ∀ {l : List α}, l.length = 6 → ∃ a b c d e f, l = [a, b, c, d, e, f]
  | [a, b, c, d, e, f], _ => ⟨a, b, c, d, e, f, rfl⟩
theorem cells3 : Try.prog.cellsOf 3 = 1 := by kernel_rfl
theorem cells32 : Try.prog.cellsOf 32 = 6 := by kernel_rfl
structure Stp where
  what : Int
  pid : Int
  slot : Int
  kind : Int
  obj : Int
  n : Int
abbrev Stp.c' (s : Stp) : List Value := [i64 s.what, i64 s.pid, i64 s.slot, i64 s.kind, i64 s.obj, i64 s.n]
abbrev Stp.v (s : Stp) : Value := .agg #[i64 s.what, i64 s.pid, i64 s.slot, i64 s.kind, i64 s.obj, i64 s.n]
abbrev spO (s : Stp) : Obj := .cells #[i64 s.what, i64 s.pid, i64 s.slot, i64 s.kind, i64 s.obj, i64 s.n] 32
instance : Inhabited Stp := ⟨⟨0, 0, 0, 0, 0, 0⟩⟩
theorem step_read {H : Type} {enc : TypeId × Value → H} {w : World} {base : Nat} {spare : Nat → Bool} {held : Bool} {fuel : Nat} {cs : List Value} {x : DataW H × List MemPlace}
    (h : DataW.trod enc Try.prog w base spare held fuel 32 cs = some x) : ∃ s : Stp, cs = s.c' ∧ True := by
  obtain ⟨xs, n, _, _, hl, hlen, hf⟩ := DataW.trod_struct Try.underlying32 h
  obtain ⟨c0, c1, c2, c3, c4, c5, rfl⟩ := list6 (hl.trans cells32)
  obtain ⟨x0, x1, x2, x3, x4, x5, rfl⟩ := list6 (show xs.length = 6 from hlen)
  have g0 : DataW.trod enc Try.prog w base spare held n 3 (([c0, c1, c2, c3, c4, c5].drop 0).take (Try.prog.cellsOf 3)) = some x0 := hf 0 _ rfl
  have g1 : DataW.trod enc Try.prog w base spare held n 3 (([c0, c1, c2, c3, c4, c5].drop 1).take (Try.prog.cellsOf 3)) = some x1 := hf 1 _ rfl
  have g2 : DataW.trod enc Try.prog w base spare held n 3 (([c0, c1, c2, c3, c4, c5].drop 2).take (Try.prog.cellsOf 3)) = some x2 := hf 2 _ rfl
  have g3 : DataW.trod enc Try.prog w base spare held n 3 (([c0, c1, c2, c3, c4, c5].drop 3).take (Try.prog.cellsOf 3)) = some x3 := hf 3 _ rfl
  have g4 : DataW.trod enc Try.prog w base spare held n 3 (([c0, c1, c2, c3, c4, c5].drop 4).take (Try.prog.cellsOf 3)) = some x4 := hf 4 _ rfl
  have g5 : DataW.trod enc Try.prog w base spare held n 3 (([c0, c1, c2, c3, c4, c5].drop 5).take (Try.prog.cellsOf 3)) = some x5 := hf 5 _ rfl
  rw [cells3] at g0 g1 g2 g3 g4 g5
  obtain ⟨n0, e0, _, w0⟩ := DataW.trod_int Try.underlying3 (show DataW.trod enc Try.prog w base spare held n 3 [c0] = some x0 from g0)
  obtain ⟨n1, e1, _, w1⟩ := DataW.trod_int Try.underlying3 (show DataW.trod enc Try.prog w base spare held n 3 [c1] = some x1 from g1)
  obtain ⟨n2, e2, _, w2⟩ := DataW.trod_int Try.underlying3 (show DataW.trod enc Try.prog w base spare held n 3 [c2] = some x2 from g2)
  obtain ⟨n3, e3, _, w3⟩ := DataW.trod_int Try.underlying3 (show DataW.trod enc Try.prog w base spare held n 3 [c3] = some x3 from g3)
  obtain ⟨n4, e4, _, w4⟩ := DataW.trod_int Try.underlying3 (show DataW.trod enc Try.prog w base spare held n 3 [c4] = some x4 from g4)
  obtain ⟨n5, e5, _, w5⟩ := DataW.trod_int Try.underlying3 (show DataW.trod enc Try.prog w base spare held n 3 [c5] = some x5 from g5)
  simp only [List.cons.injEq, and_true] at e0 e1 e2 e3 e4 e5
  subst e0 e1 e2 e3 e4 e5
  exact ⟨⟨n0, n1, n2, n3, n4, n5⟩, rfl, trivial⟩
/-- A slice of steps. -/
def SSl (w : World) (ao : Option Addr) (len : Nat) (f : Nat → Stp) : Prop := len = 0 ∨ ∃ b off, ao = some ⟨b, off, none⟩ ∧ b < w.heap.size ∧ ∀ i, i < len → w.rangeAt b (off + i * 6) (f i).c'
theorem SSl.below {w w' : World} {ao : Option Addr} {len : Nat} {f : Nat → Stp} (h : SSl w ao len f) (hb : Below w.heap.size w w') : SSl w' ao len f := by
  rcases h with h | ⟨b, off, rfl, hlt, hc⟩
  · exact Or.inl h
  · refine Or.inr ⟨b, off, rfl, Nat.lt_of_lt_of_le hlt hb.size, fun i hi j v hv => ?_⟩
    rw [hb.cell (by exact hlt)]
    exact hc i hi j v hv
theorem SSl.at {w : World} {ao : Option Addr} {len : Nat} {f : Nat → Stp} (h : SSl w ao len f) {k : Nat} (hk : k < len) : ∃ b off, ao = some ⟨b, off, none⟩ ∧ b < w.heap.size ∧ w.rangeAt b (off + k * 6) (f k).c' := by
  rcases h with h | ⟨b, off, rfl, hlt, hc⟩
  · omega
  · exact ⟨b, off, rfl, hlt, hc k hk⟩
theorem steps_read {H : Type} {enc : TypeId × Value → H} {W : World} {spare : Nat → Bool} {held : Bool} {a : Option Addr} {len cap : Nat} {d : DataW H} {ps : List MemPlace}
    (h : DataW.Trod enc Try.prog W 0 spare held 22 (.slice a len cap) d ps) : len ≤ maxLen ∧ ∃ f, SSl W a len f := by
  obtain ⟨hm, f, _, hc⟩ := slice_read (α := Stp) Stp.c' (fun _ => True) Try.underlying22 cells32 (fun _ => by simp) (fun hr => step_read hr) h
  exact ⟨hm, f, hc⟩
theorem six_cells {W : World} {X : Nat} {x : Stp} (h : W.heap[X]? = some (spO x)) : W.cell? ⟨X, 0, none⟩ = some (i64 x.what) ∧ W.cell? ⟨X, 1, none⟩ = some (i64 x.pid) ∧ W.cell? ⟨X, 2, none⟩ = some (i64 x.slot) ∧ W.cell? ⟨X, 3, none⟩ = some (i64 x.kind) ∧ W.cell? ⟨X, 4, none⟩ = some (i64 x.obj) ∧ W.cell? ⟨X, 5, none⟩ = some (i64 x.n) := ⟨blk_cell h 0, blk_cell h 1, blk_cell h 2, blk_cell h 3, blk_cell h 4, blk_cell h 5⟩
end Go.Proofs.Ytaapiffglfppnaa
