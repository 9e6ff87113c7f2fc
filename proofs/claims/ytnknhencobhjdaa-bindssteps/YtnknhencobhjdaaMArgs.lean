/- No statement here. -/
import Derived.Test.YtnknhencobhjdaaMSt
set_option maxRecDepth 100000
namespace Go.Proofs.Ytnknhencobhjdaa
open Go.ChangeShapes Go.WideShapes Go.ChangeAt Go.RowKit Go.Deep Go.ChangeMaps Go.MapKept
open Go.Proofs.Ytnknhencobhjdaa.Cp (pq hid bl1 hO cO zC looks_nil)
open Go.Proofs.Ytnknhencobhjdaa.Qt (zT badB)
theorem i64_of {n : Int} (h : (Lit.int .i64 n).wf = true) : -9223372036854775808 ≤ n ∧ n ≤ 9223372036854775807 := by
  have hmin : IntKind.i64.min = -9223372036854775808 := rfl
  have hmax : IntKind.i64.max = 9223372036854775807 := rfl
  simp only [Lit.wf, Bool.and_eq_true, decide_eq_true_eq] at h
  omega
theorem slice_read {H : Type} {enc : TypeId × Value → H} {W : World} {spare : Nat → Bool} {held : Bool} {a : Option Addr} {len cap : Nat} {d : DataW H} {ps : List MemPlace} {t e : TypeId} {k : Nat} {α : Type} [Inhabited α] (C : α → List Value) (R : α → Prop)
    (ht : Try.prog.underlying t = some (.slice e)) (hk : Try.prog.cellsOf e = k) (hpos : ∀ x, 0 < (C x).length)
    (hR : ∀ {fuel : Nat} {cs : List Value} {x : DataW H × List MemPlace}, DataW.trod enc Try.prog W 0 spare held fuel e cs = some x → ∃ y, cs = C y ∧ R y)
    (h : DataW.Trod enc Try.prog W 0 spare held t (.slice a len cap) d ps) : len ≤ maxLen ∧ ∃ f : Nat → α, (∀ i, i < len → R (f i)) ∧ (len = 0 ∨ ∃ b off, a = some ⟨b, off, none⟩ ∧ b < W.heap.size ∧ ∀ i, i < len → W.rangeAt b (off + i * k) (C (f i))) := by
  obtain ⟨fuel, hf⟩ := h
  rcases Deep.open_slice ht hf with ⟨hcs, _⟩ | ⟨x, len', cap', m, n, D, Pl, hcs, _, hl, hm, hmm, _, hel⟩
  · simp [Value.cells] at hcs
    obtain ⟨rfl, rfl, rfl⟩ := hcs
    exact ⟨Nat.zero_le _, fun _ => default, fun i hi => absurd hi (by omega), Or.inl rfl⟩
  · simp [Value.cells] at hcs
    obtain ⟨rfl, rfl, rfl⟩ := hcs
    refine ⟨Nat.le_trans hl hm, ?_⟩
    have hlm : len ≤ m := by rw [hmm]; split <;> omega
    have hone : ∀ i, ∃ st : α, i < len → (R st ∧ ∀ j v, (C st)[j]? = some v → W.cell? ((x.add (i * k)).add j) = some v) := by
      intro i
      by_cases hi : i < len
      · obtain ⟨cs', hc, hr⟩ := hel i (by omega)
        rw [hk] at hc
        obtain ⟨y, rfl, hy⟩ := hR hr
        refine ⟨y, fun _ => ⟨hy, fun j v hv => ?_⟩⟩
        obtain ⟨_, hlen6, hcell⟩ := World.cells?_some hc
        rw [hcell j (by have := (List.getElem?_eq_some_iff.1 hv).1; rw [← hlen6]; exact this)]
        exact hv
      · exact ⟨default, fun h => absurd h hi⟩
    obtain ⟨f, hf⟩ := Classical.axiomOfChoice hone
    refine ⟨f, fun i hi => (hf i hi).1, ?_⟩
    by_cases h0 : len = 0
    · exact Or.inl h0
    · right
      obtain ⟨b, off, spot⟩ := x
      have hc := (hf 0 (by omega)).2 0 _ (List.getElem?_eq_getElem (hpos (f 0)))
      have hspot : spot = none := by simpa [Addr.add] using World.cell?_spot hc
      subst hspot
      have hlt := World.block_lt_of_cell? W _ hc
      rw [Addr.add_mid, Addr.add_mid] at hlt
      refine ⟨b, off, rfl, hlt, fun i hi j v hv => ?_⟩
      have := (hf i hi).2 j v hv
      rw [Addr.add_mid, Addr.add_mid] at this
      exact this
theorem list3 {α : Type} : ∀ {l : List α}, l.length = 3 → ∃ a b c, l = [a, b, c]
  | [a, b, c], _ => ⟨a, b, c, rfl⟩
theorem list8 {α : Type} : ∀ {l : List α}, l.length = 8 → ∃ a b c d e f g h, l = [a, b, c, d, e, f, g, h]
  | [a, b, c, d, e, f, g, h], _ => ⟨a, b, c, d, e, f, g, h, rfl⟩
theorem list10 {α : Type} : ∀ {l : List α}, l.length = 10 → ∃ a b c d e f g h i j, l = [a, b, c, d, e, f, g, h, i, j]
  | [a, b, c, d, e, f, g, h, i, j], _ => ⟨a, b, c, d, e, f, g, h, i, j, rfl⟩
theorem cells22 : Try.prog.cellsOf 22 = 3 := by kernel_rfl
theorem cells3 : Try.prog.cellsOf 3 = 1 := by kernel_rfl
theorem cells4 : Try.prog.cellsOf 4 = 1 := by kernel_rfl
theorem cells33 : Try.prog.cellsOf 33 = 10 := by kernel_rfl
def Rng (x : Int) : Prop := -9223372036854775808 ≤ x ∧ x ≤ 9223372036854775807
def tRng (t : Qt.T) : Prop := Rng t.a ∧ Rng t.b ∧ Rng t.c
theorem arr_read {H : Type} {enc : TypeId × Value → H} {W : World} {base : Nat} {spare : Nat → Bool} {held : Bool} {fuel : Nat} {cs : List Value} {x : DataW H × List MemPlace}
    (h : DataW.trod enc Try.prog W base spare held fuel 22 cs = some x) : ∃ t : Qt.T, cs = [i64 t.a, i64 t.b, i64 t.c] ∧ tRng t := by
  obtain ⟨xs, m, _, _, hlen, hxs, hel⟩ := DataW.trod_array Try.underlying22 h
  rw [cells22] at hlen
  obtain ⟨c0, c1, c2, rfl⟩ := list3 hlen
  obtain ⟨y0, y1, y2, rfl⟩ := list3 (show xs.length = 3 from hxs)
  have e0 := hel 0 (by omega)
  have e1 := hel 1 (by omega)
  have e2 := hel 2 (by omega)
  rw [cells3] at e0 e1 e2
  obtain ⟨a, ea, _, wa⟩ := DataW.trod_int Try.underlying3 (show DataW.trod enc Try.prog W base spare held m 3 [c0] = some y0 from e0)
  obtain ⟨b, eb, _, wb⟩ := DataW.trod_int Try.underlying3 (show DataW.trod enc Try.prog W base spare held m 3 [c1] = some y1 from e1)
  obtain ⟨c, ec, _, wc⟩ := DataW.trod_int Try.underlying3 (show DataW.trod enc Try.prog W base spare held m 3 [c2] = some y2 from e2)
  simp only [List.cons.injEq, and_true] at ea eb ec
  subst ea eb ec
  exact ⟨⟨a, b, c⟩, rfl, i64_of wa, i64_of wb, i64_of wc⟩
structure Sb where
  what : Int
  env : Int
  kind : Int
  n : Int
  tt : Int
  rts : Int
  by_ : Bool
  q : Qt.T
abbrev Sb.c (s : Sb) : List Value := [i64 s.what, i64 s.env, i64 s.kind, i64 s.n, i64 s.tt, i64 s.rts, .bool s.by_, i64 s.q.a, i64 s.q.b, i64 s.q.c]
abbrev Sb.v (s : Sb) : Value := .agg #[i64 s.what, i64 s.env, i64 s.kind, i64 s.n, i64 s.tt, i64 s.rts, .bool s.by_, i64 s.q.a, i64 s.q.b, i64 s.q.c]
abbrev sbO (s : Sb) : Obj := .cells #[i64 s.what, i64 s.env, i64 s.kind, i64 s.n, i64 s.tt, i64 s.rts, .bool s.by_, i64 s.q.a, i64 s.q.b, i64 s.q.c] 33
def Sb.rng (s : Sb) : Prop := Rng s.what ∧ Rng s.env ∧ Rng s.kind ∧ Rng s.n ∧ Rng s.tt ∧ Rng s.rts ∧ tRng s.q
theorem step_read {H : Type} {enc : TypeId × Value → H} {w : World} {base : Nat} {spare : Nat → Bool} {held : Bool} {fuel : Nat} {cs : List Value} {x : DataW H × List MemPlace}
    (h : DataW.trod enc Try.prog w base spare held fuel 33 cs = some x) : ∃ s : Sb, cs = s.c ∧ s.rng := by
  obtain ⟨xs, n, _, _, hl, hlen, hf⟩ := DataW.trod_struct Try.underlying33 h
  obtain ⟨c0, c1, c2, c3, c4, c5, c6, c7, c8, c9, rfl⟩ := list10 (hl.trans cells33)
  obtain ⟨x0, x1, x2, x3, x4, x5, x6, x7, rfl⟩ := list8 (show xs.length = 8 from hlen)
  have g0 : DataW.trod enc Try.prog w base spare held n 3 (([c0, c1, c2, c3, c4, c5, c6, c7, c8, c9].drop 0).take (Try.prog.cellsOf 3)) = some x0 := hf 0 _ rfl
  have g1 : DataW.trod enc Try.prog w base spare held n 3 (([c0, c1, c2, c3, c4, c5, c6, c7, c8, c9].drop 1).take (Try.prog.cellsOf 3)) = some x1 := hf 1 _ rfl
  have g2 : DataW.trod enc Try.prog w base spare held n 3 (([c0, c1, c2, c3, c4, c5, c6, c7, c8, c9].drop 2).take (Try.prog.cellsOf 3)) = some x2 := hf 2 _ rfl
  have g3 : DataW.trod enc Try.prog w base spare held n 3 (([c0, c1, c2, c3, c4, c5, c6, c7, c8, c9].drop 3).take (Try.prog.cellsOf 3)) = some x3 := hf 3 _ rfl
  have g4 : DataW.trod enc Try.prog w base spare held n 3 (([c0, c1, c2, c3, c4, c5, c6, c7, c8, c9].drop 4).take (Try.prog.cellsOf 3)) = some x4 := hf 4 _ rfl
  have g5 : DataW.trod enc Try.prog w base spare held n 3 (([c0, c1, c2, c3, c4, c5, c6, c7, c8, c9].drop 5).take (Try.prog.cellsOf 3)) = some x5 := hf 5 _ rfl
  have g6 : DataW.trod enc Try.prog w base spare held n 4 (([c0, c1, c2, c3, c4, c5, c6, c7, c8, c9].drop 6).take (Try.prog.cellsOf 4)) = some x6 := hf 6 _ rfl
  have g7 : DataW.trod enc Try.prog w base spare held n 22 (([c0, c1, c2, c3, c4, c5, c6, c7, c8, c9].drop 7).take (Try.prog.cellsOf 22)) = some x7 := hf 7 _ rfl
  rw [cells3] at g0 g1 g2 g3 g4 g5
  rw [cells4] at g6
  rw [cells22] at g7
  obtain ⟨n0, e0, _, w0⟩ := DataW.trod_int Try.underlying3 (show DataW.trod enc Try.prog w base spare held n 3 [c0] = some x0 from g0)
  obtain ⟨n1, e1, _, w1⟩ := DataW.trod_int Try.underlying3 (show DataW.trod enc Try.prog w base spare held n 3 [c1] = some x1 from g1)
  obtain ⟨n2, e2, _, w2⟩ := DataW.trod_int Try.underlying3 (show DataW.trod enc Try.prog w base spare held n 3 [c2] = some x2 from g2)
  obtain ⟨n3, e3, _, w3⟩ := DataW.trod_int Try.underlying3 (show DataW.trod enc Try.prog w base spare held n 3 [c3] = some x3 from g3)
  obtain ⟨n4, e4, _, w4⟩ := DataW.trod_int Try.underlying3 (show DataW.trod enc Try.prog w base spare held n 3 [c4] = some x4 from g4)
  obtain ⟨n5, e5, _, w5⟩ := DataW.trod_int Try.underlying3 (show DataW.trod enc Try.prog w base spare held n 3 [c5] = some x5 from g5)
  obtain ⟨b6, e6, _⟩ := DataW.trod_bool Try.underlying4 (show DataW.trod enc Try.prog w base spare held n 4 [c6] = some x6 from g6)
  obtain ⟨t, e7, w7⟩ := arr_read (show DataW.trod enc Try.prog w base spare held n 22 [c7, c8, c9] = some x7 from g7)
  simp only [List.cons.injEq, and_true] at e0 e1 e2 e3 e4 e5 e6 e7
  obtain ⟨rfl, rfl, rfl⟩ := e7
  subst e0 e1 e2 e3 e4 e5 e6
  exact ⟨⟨n0, n1, n2, n3, n4, n5, b6, t⟩, rfl, i64_of w0, i64_of w1, i64_of w2, i64_of w3, i64_of w4, i64_of w5, w7⟩
end Go.Proofs.Ytnknhencobhjdaa
