/- Steps and descriptors out of what was read; no statement is proved in this text. -/
import Derived.Test.YtlkcpjefgelcoaaTr
namespace Go.Proofs.Ytlkcpjefgelcoaa
open Go.ChangeShapes Go.WideShapes Go.ChangeAt Go.RowKit Go.Deep

theorem i64_of {n : Int} (h : (Lit.int .i64 n).wf = true) : -9223372036854775808 ≤ n ∧ n ≤ 9223372036854775807 := by
  have hmin : IntKind.i64.min = -9223372036854775808 := rfl
  have hmax : IntKind.i64.max = 9223372036854775807 := rfl
  simp only [Lit.wf, Bool.and_eq_true, decide_eq_true_eq] at h
  omega

/-- A slice whose elements have k cells each: its cells, as a function of the place. -/
theorem slice_read {H : Type} {enc : TypeId × Value → H} {W : World} {spare : Nat → Bool} {held : Bool} {a : Option Addr} {len cap : Nat} {d : DataW H} {ps : List MemPlace} {t e : TypeId} {k : Nat} {α : Type} [Inhabited α] (C : α → List Value) (R : α → Prop)
    (ht : Try.prog.underlying t = some (.slice e)) (hk : Try.prog.cellsOf e = k) (hpos : ∀ x, 0 < (C x).length)
    (hR : ∀ {fuel : Nat} {cs : List Value} {x : DataW H × List MemPlace}, DataW.trod enc Try.prog W 0 spare held fuel e cs = some x → ∃ y, cs = C y ∧ R y)
    (h : DataW.Trod enc Try.prog W 0 spare held t (.slice a len cap) d ps) : len ≤ maxLen ∧ ∃ f : Nat → α, (∀ i, i < len → R (f i)) ∧ (len = 0 ∨ ∃ b off, a = some ⟨b, off, none⟩ ∧ b < W.heap.size ∧ ∀ i, i < len → W.rangeAt b (off + i * k) (C (f i))) := by
  obtain ⟨fuel, hf⟩ := h
  rcases Deep.open_slice ht hf with ⟨hcs, _⟩ | ⟨x, len', cap', m, n, D, Pl, hcs, _, hl, hm, hmm, _, hel⟩
  · simp [Value.cells] at hcs
    obtain ⟨rfl, rfl, rfl⟩ := hcs
    exact ⟨Nat.zero_le _, fun _ => default, fun i hi => absurd hi (by omega), Or.inl rfl⟩
  · simp [Value.cells] at hcs
    obtain ⟨rfl, rfl, rfl⟩ := hcs
    refine ⟨Nat.le_trans hl hm, ?_⟩
    have hlm : len ≤ m := by rw [hmm]; split <;> omega
    have hone : ∀ i, ∃ st : α, i < len → (R st ∧ ∀ j v, (C st)[j]? = some v → W.cell? ((x.add (i * k)).add j) = some v) := by
      intro i
      by_cases hi : i < len
      · obtain ⟨cs', hc, hr⟩ := hel i (by omega)
        rw [hk] at hc
        obtain ⟨y, rfl, hy⟩ := hR hr
        refine ⟨y, fun _ => ⟨hy, fun j v hv => ?_⟩⟩
        obtain ⟨_, hlen6, hcell⟩ := World.cells?_some hc
        rw [hcell j (by have := (List.getElem?_eq_some_iff.1 hv).1; rw [← hlen6]; exact this)]
        exact hv
      · exact ⟨default, fun h => absurd h hi⟩
    obtain ⟨f, hf⟩ := Classical.axiomOfChoice hone
    refine ⟨f, fun i hi => (hf i hi).1, ?_⟩
    by_cases h0 : len = 0
    · exact Or.inl h0
    · right
      obtain ⟨b, off, spot⟩ := x
      have hc := (hf 0 (by omega)).2 0 _ (List.getElem?_eq_getElem (hpos (f 0)))
      have hspot : spot = none := by simpa [Addr.add] using World.cell?_spot hc
      subst hspot
      have hlt := World.block_lt_of_cell? W _ hc
      rw [Addr.add_mid, Addr.add_mid] at hlt
      refine ⟨b, off, rfl, hlt, fun i hi j v hv => ?_⟩
      have := (hf i hi).2 j v hv
      rw [Addr.add_mid, Addr.add_mid] at this
      exact this


theorem list3 {α : Type} : ∀ {l : List α}, l.length = 3 → ∃ a b c, l = [a, b, c]
  | [a, b, c], _ => ⟨a, b, c, rfl⟩
theorem list4 {α : Type} : ∀ {l : List α}, l.length = 4 → ∃ a b c d, l = [a, b, c, d]
  | [a, b, c, d], _ => ⟨a, b, c, d, rfl⟩
theorem cells3 : Try.prog.cellsOf 3 = 1 := by kernel_rfl
theorem cells31 : Try.prog.cellsOf 31 = 4 := by kernel_rfl
theorem cells42 : Try.prog.cellsOf 79 = 3 := by kernel_rfl
structure Stp where
  what : Int
  pid : Int
  fst : Int
  n : Int
abbrev Stp.c' (s : Stp) : List Value := [i64 s.what, i64 s.pid, i64 s.fst, i64 s.n]
abbrev Stp.v (s : Stp) : Value := .agg #[i64 s.what, i64 s.pid, i64 s.fst, i64 s.n]
abbrev spO (s : Stp) : Obj := .cells #[i64 s.what, i64 s.pid, i64 s.fst, i64 s.n] 31
theorem step_read {H : Type} {enc : TypeId × Value → H} {w : World} {base : Nat} {spare : Nat → Bool} {held : Bool} {fuel : Nat} {cs : List Value} {x : DataW H × List MemPlace}
    (h : DataW.trod enc Try.prog w base spare held fuel 31 cs = some x) : ∃ s : Stp, cs = s.c' ∧ True := by
  obtain ⟨xs, n, _, _, hl, hlen, hf⟩ := DataW.trod_struct Try.underlying31 h
  obtain ⟨c0, c1, c2, c3, rfl⟩ := list4 (hl.trans cells31)
  obtain ⟨x0, x1, x2, x3, rfl⟩ := list4 (show xs.length = 4 from hlen)
  have g0 : DataW.trod enc Try.prog w base spare held n 3 (([c0, c1, c2, c3].drop 0).take (Try.prog.cellsOf 3)) = some x0 := hf 0 _ rfl
  have g1 : DataW.trod enc Try.prog w base spare held n 3 (([c0, c1, c2, c3].drop 1).take (Try.prog.cellsOf 3)) = some x1 := hf 1 _ rfl
  have g2 : DataW.trod enc Try.prog w base spare held n 3 (([c0, c1, c2, c3].drop 2).take (Try.prog.cellsOf 3)) = some x2 := hf 2 _ rfl
  have g3 : DataW.trod enc Try.prog w base spare held n 3 (([c0, c1, c2, c3].drop 3).take (Try.prog.cellsOf 3)) = some x3 := hf 3 _ rfl
  rw [cells3] at g0 g1 g2 g3
  obtain ⟨n0, e0, _, w0⟩ := DataW.trod_int Try.underlying3 (show DataW.trod enc Try.prog w base spare held n 3 [c0] = some x0 from g0)
  obtain ⟨n1, e1, _, w1⟩ := DataW.trod_int Try.underlying3 (show DataW.trod enc Try.prog w base spare held n 3 [c1] = some x1 from g1)
  obtain ⟨n2, e2, _, w2⟩ := DataW.trod_int Try.underlying3 (show DataW.trod enc Try.prog w base spare held n 3 [c2] = some x2 from g2)
  obtain ⟨n3, e3, _, w3⟩ := DataW.trod_int Try.underlying3 (show DataW.trod enc Try.prog w base spare held n 3 [c3] = some x3 from g3)
  simp only [List.cons.injEq, and_true] at e0 e1 e2 e3
  subst e0 e1 e2 e3
  exact ⟨⟨n0, n1, n2, n3⟩, rfl, trivial⟩
theorem cells71 : Try.prog.cellsOf 71 = 4 := by kernel_rfl
theorem span_read {H : Type} {enc : TypeId × Value → H} {w : World} {base : Nat} {spare : Nat → Bool} {held : Bool} {fuel : Nat} {cs : List Value} {x : DataW H × List MemPlace}
    (h : DataW.trod enc Try.prog w base spare held fuel 71 cs = some x) : ∃ a : Sp, cs = sC a ∧ a.2.1 ≤ 9223372036854775807 := by
  obtain ⟨xs, n, _, _, hl, hlen, hf⟩ := DataW.trod_struct Try.underlying71 h
  obtain ⟨c0, c1, c2, c3, rfl⟩ := list4 (hl.trans cells71)
  obtain ⟨x0, x1, x2, x3, rfl⟩ := list4 (show xs.length = 4 from hlen)
  have g0 : DataW.trod enc Try.prog w base spare held n 3 (([c0, c1, c2, c3].drop 0).take (Try.prog.cellsOf 3)) = some x0 := hf 0 _ rfl
  have g1 : DataW.trod enc Try.prog w base spare held n 3 (([c0, c1, c2, c3].drop 1).take (Try.prog.cellsOf 3)) = some x1 := hf 1 _ rfl
  have g2 : DataW.trod enc Try.prog w base spare held n 3 (([c0, c1, c2, c3].drop 2).take (Try.prog.cellsOf 3)) = some x2 := hf 2 _ rfl
  have g3 : DataW.trod enc Try.prog w base spare held n 3 (([c0, c1, c2, c3].drop 3).take (Try.prog.cellsOf 3)) = some x3 := hf 3 _ rfl
  rw [cells3] at g0 g1 g2 g3
  obtain ⟨n0, e0, _, w0⟩ := DataW.trod_int Try.underlying3 (show DataW.trod enc Try.prog w base spare held n 3 [c0] = some x0 from g0)
  obtain ⟨n1, e1, _, w1⟩ := DataW.trod_int Try.underlying3 (show DataW.trod enc Try.prog w base spare held n 3 [c1] = some x1 from g1)
  obtain ⟨n2, e2, _, w2⟩ := DataW.trod_int Try.underlying3 (show DataW.trod enc Try.prog w base spare held n 3 [c2] = some x2 from g2)
  obtain ⟨n3, e3, _, w3⟩ := DataW.trod_int Try.underlying3 (show DataW.trod enc Try.prog w base spare held n 3 [c3] = some x3 from g3)
  simp only [List.cons.injEq, and_true] at e0 e1 e2 e3
  subst e0 e1 e2 e3
  exact ⟨(n0, n1, n2, n3), rfl, (i64_of w1).2⟩
instance : Inhabited Stp := ⟨⟨0, 0, 0, 0⟩⟩
/-- A slice of steps. -/
def SSl (w : World) (ao : Option Addr) (len : Nat) (f : Nat → Stp) : Prop := len = 0 ∨ ∃ b off, ao = some ⟨b, off, none⟩ ∧ b < w.heap.size ∧ ∀ i, i < len → w.rangeAt b (off + i * 4) (f i).c'
theorem SSl.below {w w' : World} {ao : Option Addr} {len : Nat} {f : Nat → Stp} (h : SSl w ao len f) (hb : Below w.heap.size w w') : SSl w' ao len f := by
  rcases h with h | ⟨b, off, rfl, hlt, hc⟩
  · exact Or.inl h
  · refine Or.inr ⟨b, off, rfl, Nat.lt_of_lt_of_le hlt hb.size, fun i hi j v hv => ?_⟩
    rw [hb.cell (by exact hlt)]
    exact hc i hi j v hv
theorem SSl.at {w : World} {ao : Option Addr} {len : Nat} {f : Nat → Stp} (h : SSl w ao len f) {k : Nat} (hk : k < len) : ∃ b off, ao = some ⟨b, off, none⟩ ∧ b < w.heap.size ∧ w.rangeAt b (off + k * 4) (f k).c' := by
  rcases h with h | ⟨b, off, rfl, hlt, hc⟩
  · omega
  · exact ⟨b, off, rfl, hlt, hc k hk⟩
theorem steps_read {H : Type} {enc : TypeId × Value → H} {W : World} {spare : Nat → Bool} {held : Bool} {a : Option Addr} {len cap : Nat} {d : DataW H} {ps : List MemPlace}
    (h : DataW.Trod enc Try.prog W 0 spare held 22 (.slice a len cap) d ps) : len ≤ maxLen ∧ ∃ f, SSl W a len f := by
  obtain ⟨hm, f, _, hc⟩ := slice_read (α := Stp) Stp.c' (fun _ => True) Try.underlying22 cells31 (fun _ => by simp) (fun hr => step_read hr) h
  exact ⟨hm, f, hc⟩
theorem spans_read {H : Type} {enc : TypeId × Value → H} {W : World} {spare : Nat → Bool} {held : Bool} {a : Option Addr} {len cap : Nat} {d : DataW H} {ps : List MemPlace}
    (h : DataW.Trod enc Try.prog W 0 spare held 35 (.slice a len cap) d ps) : len ≤ maxLen ∧ ∃ X : List Sp, X.length = len ∧ Rd4 W a X ∧ ∀ x ∈ X, x.2.1 ≤ 9223372036854775807 := by
  obtain ⟨hm, f, hR, hc⟩ := slice_read (α := Sp) sC (fun x => x.2.1 ≤ 9223372036854775807) uS cells71 (fun _ => by simp [sC]) (fun hr => span_read hr) h
  refine ⟨hm, (List.range len).map f, by simp, fun i e he => ?_, fun x hx => ?_⟩
  · have hi : i < len := by have := (List.getElem?_eq_some_iff.1 he).1; simpa using this
    have hfe : f i = e := by
      simp [hi] at he
      exact he
    rcases hc with h0 | ⟨b, off, rfl, hlt, hc⟩
    · omega
    · have hr := hc i hi
      rw [hfe] at hr
      exact ⟨b, off, rfl, hlt, hr 0 _ rfl, hr 1 _ rfl, hr 2 _ rfl, hr 3 _ rfl⟩
  · obtain ⟨i, hi, rfl⟩ := List.mem_map.1 hx
    exact hR i (List.mem_range.1 hi)
end Go.Proofs.Ytlkcpjefgelcoaa
