/- Steps and arrays out of what was read; no statement is proved in this text. -/
import Derived.Test.YtfnhiefngbcnaaaNilWalk
namespace Go.Proofs.Ytfnhiefngbcnaaa
open Go.ChangeShapes Go.WideShapes Go.ChangeAt Go.RowKit Go.Deep

theorem i64_of {n : Int} (h : (Lit.int .i64 n).wf = true) : -9223372036854775808 ≤ n ∧ n ≤ 9223372036854775807 := by
  have hmin : IntKind.i64.min = -9223372036854775808 := rfl
  have hmax : IntKind.i64.max = 9223372036854775807 := rfl
  simp only [Lit.wf, Bool.and_eq_true, decide_eq_true_eq] at h
  omega

/-- A slice whose elements have k cells each: its cells, as a function of the place. -/
theorem slice_read {H : Type} {enc : TypeId × Value → H} {W : World} {spare : Nat → Bool} {held : Bool} {a : Option Addr} {len cap : Nat} {d : DataW H} {ps : List MemPlace} {t e : TypeId} {k : Nat} {α : Type} [Inhabited α] (C : α → List Value) (R : α → Prop)
    (ht : Try.prog.underlying t = some (.slice e)) (hk : Try.prog.cellsOf e = k) (hpos : ∀ x, 0 < (C x).length)
    (hR : ∀ {fuel : Nat} {cs : List Value} {x : DataW H × List MemPlace}, DataW.trod enc Try.prog W 0 spare held fuel e cs = some x → ∃ y, cs = C y ∧ R y)
    (h : DataW.Trod enc Try.prog W 0 spare held t (.slice a len cap) d ps) : len ≤ maxLen ∧ ∃ f : Nat → α, (∀ i, i < len → R (f i)) ∧ (len = 0 ∨ ∃ b off, a = some ⟨b, off, none⟩ ∧ b < W.heap.size ∧ ∀ i, i < len → W.rangeAt b (off + i * k) (C (f i))) := by
  obtain ⟨fuel, hf⟩ := h
  rcases Deep.open_slice ht hf with ⟨hcs, _⟩ | ⟨x, len', cap', m, n, D, Pl, hcs, _, hl, hm, hmm, _, hel⟩
  · simp [Value.cells] at hcs
    obtain ⟨rfl, rfl, rfl⟩ := hcs
    exact ⟨Nat.zero_le _, fun _ => default, fun i hi => absurd hi (by omega), Or.inl rfl⟩
  · simp [Value.cells] at hcs
    obtain ⟨rfl, rfl, rfl⟩ := hcs
    refine ⟨Nat.le_trans hl hm, ?_⟩
    have hlm : len ≤ m := by rw [hmm]; split <;> omega
    have hone : ∀ i, ∃ st : α, i < len → (R st ∧ ∀ j v, (C st)[j]? = some v → W.cell? ((x.add (i * k)).add j) = some v) := by
      intro i
      by_cases hi : i < len
      · obtain ⟨cs', hc, hr⟩ := hel i (by omega)
        rw [hk] at hc
        obtain ⟨y, rfl, hy⟩ := hR hr
        refine ⟨y, fun _ => ⟨hy, fun j v hv => ?_⟩⟩
        obtain ⟨_, hlen6, hcell⟩ := World.cells?_some hc
        rw [hcell j (by have := (List.getElem?_eq_some_iff.1 hv).1; rw [← hlen6]; exact this)]
        exact hv
      · exact ⟨default, fun h => absurd h hi⟩
    obtain ⟨f, hf⟩ := Classical.axiomOfChoice hone
    refine ⟨f, fun i hi => (hf i hi).1, ?_⟩
    by_cases h0 : len = 0
    · exact Or.inl h0
    · right
      obtain ⟨b, off, spot⟩ := x
      have hc := (hf 0 (by omega)).2 0 _ (List.getElem?_eq_getElem (hpos (f 0)))
      have hspot : spot = none := by simpa [Addr.add] using World.cell?_spot hc
      subst hspot
      have hlt := World.block_lt_of_cell? W _ hc
      rw [Addr.add_mid, Addr.add_mid] at hlt
      refine ⟨b, off, rfl, hlt, fun i hi j v hv => ?_⟩
      have := (hf i hi).2 j v hv
      rw [Addr.add_mid, Addr.add_mid] at this
      exact this


theorem list5 {α : Type} : ∀ {l : List α}, l.length = 5 → ∃ a b c d e, l = [a, b, c, d, e]
  | [a, b, c, d, e], _ => ⟨a, b, c, d, e, rfl⟩
theorem list7 {α : Type} : ∀ {l : List α}, l.length = 7 → ∃ a b c d e f g, l = [a, b, c, d, e, f, g]
  | [a, b, c, d, e, f, g], _ => ⟨a, b, c, d, e, f, g, rfl⟩
theorem cells22 : Try.prog.cellsOf 22 = 3 := by kernel_rfl
theorem cells35 : Try.prog.cellsOf 35 = 7 := by kernel_rfl
def Rng (x : Int) : Prop := -9223372036854775808 ≤ x ∧ x ≤ 9223372036854775807
def T.rng (t : T) : Prop := Rng t.a ∧ Rng t.b ∧ Rng t.c
def Sp.rng (s : Sp) : Prop := Rng s.what ∧ Rng s.env ∧ Rng s.kind ∧ Rng s.n ∧ s.q.rng
theorem arr_read {H : Type} {enc : TypeId × Value → H} {W : World} {base : Nat} {spare : Nat → Bool} {held : Bool} {fuel : Nat} {cs : List Value} {x : DataW H × List MemPlace}
    (h : DataW.trod enc Try.prog W base spare held fuel 22 cs = some x) : ∃ t : T, cs = [i64 t.a, i64 t.b, i64 t.c] ∧ t.rng := by
  obtain ⟨xs, m, _, _, hlen, hxs, hel⟩ := DataW.trod_array Try.underlying22 h
  rw [cells22] at hlen
  match cs, hlen, hel with
  | [c0, c1, c2], _, hel =>
    match xs, hxs, hel with
    | [y0, y1, y2], _, hel =>
      have e0 := hel 0 (by omega)
      have e1 := hel 1 (by omega)
      have e2 := hel 2 (by omega)
      rw [cells3] at e0 e1 e2
      obtain ⟨a, ea, _, wa⟩ := DataW.trod_int Try.underlying3 (show DataW.trod enc Try.prog W base spare held m 3 [c0] = some y0 from e0)
      obtain ⟨b, eb, _, wb⟩ := DataW.trod_int Try.underlying3 (show DataW.trod enc Try.prog W base spare held m 3 [c1] = some y1 from e1)
      obtain ⟨c, ec, _, wc⟩ := DataW.trod_int Try.underlying3 (show DataW.trod enc Try.prog W base spare held m 3 [c2] = some y2 from e2)
      simp only [List.cons.injEq, and_true] at ea eb ec
      subst ea eb ec
      exact ⟨⟨a, b, c⟩, rfl, i64_of wa, i64_of wb, i64_of wc⟩
theorem open_arr {H : Type} {enc : TypeId × Value → H} {W : World} {r : Reach} {b0 : Nat} {spare : Nat → Bool} {held : Bool} {v : Value} {dd : DataW H} {p : List MemPlace} (hv : Value.okWide Try.prog W r b0 22 v)
    (h : DataW.Trod enc Try.prog W 0 spare held 22 v dd p) : ∃ t : T, v = t.v ∧ t.rng := by
  have hcs : ∃ cs, v = .agg cs := by
    simp only [Value.okWide, Try.underlying22] at hv
    obtain ⟨cs, h1, _⟩ := hv
    exact ⟨cs, h1⟩
  obtain ⟨⟨l⟩, rfl⟩ := hcs
  obtain ⟨fuel, hf⟩ := h
  obtain ⟨t, ht, hr⟩ := arr_read hf
  have ht' : l = [i64 t.a, i64 t.b, i64 t.c] := ht
  subst ht'
  exact ⟨t, rfl, hr⟩
theorem step_read {H : Type} {enc : TypeId × Value → H} {w : World} {base : Nat} {spare : Nat → Bool} {held : Bool} {fuel : Nat} {cs : List Value} {x : DataW H × List MemPlace}
    (h : DataW.trod enc Try.prog w base spare held fuel 35 cs = some x) : ∃ s : Sp, cs = s.c ∧ s.rng := by
  obtain ⟨xs, n, _, _, hl, hlen, hf⟩ := DataW.trod_struct Try.underlying35 h
  obtain ⟨c0, c1, c2, c3, c4, c5, c6, rfl⟩ := list7 (hl.trans cells35)
  obtain ⟨x0, x1, x2, x3, x4, rfl⟩ := list5 (show xs.length = 5 from hlen)
  have g0 : DataW.trod enc Try.prog w base spare held n 3 (([c0, c1, c2, c3, c4, c5, c6].drop 0).take (Try.prog.cellsOf 3)) = some x0 := hf 0 _ rfl
  have g1 : DataW.trod enc Try.prog w base spare held n 3 (([c0, c1, c2, c3, c4, c5, c6].drop 1).take (Try.prog.cellsOf 3)) = some x1 := hf 1 _ rfl
  have g2 : DataW.trod enc Try.prog w base spare held n 3 (([c0, c1, c2, c3, c4, c5, c6].drop 2).take (Try.prog.cellsOf 3)) = some x2 := hf 2 _ rfl
  have g3 : DataW.trod enc Try.prog w base spare held n 3 (([c0, c1, c2, c3, c4, c5, c6].drop 3).take (Try.prog.cellsOf 3)) = some x3 := hf 3 _ rfl
  have g4 : DataW.trod enc Try.prog w base spare held n 22 (([c0, c1, c2, c3, c4, c5, c6].drop 4).take (Try.prog.cellsOf 22)) = some x4 := hf 4 _ rfl
  rw [cells3] at g0 g1 g2 g3
  rw [cells22] at g4
  obtain ⟨n0, e0, _, w0⟩ := DataW.trod_int Try.underlying3 (show DataW.trod enc Try.prog w base spare held n 3 [c0] = some x0 from g0)
  obtain ⟨n1, e1, _, w1⟩ := DataW.trod_int Try.underlying3 (show DataW.trod enc Try.prog w base spare held n 3 [c1] = some x1 from g1)
  obtain ⟨n2, e2, _, w2⟩ := DataW.trod_int Try.underlying3 (show DataW.trod enc Try.prog w base spare held n 3 [c2] = some x2 from g2)
  obtain ⟨n3, e3, _, w3⟩ := DataW.trod_int Try.underlying3 (show DataW.trod enc Try.prog w base spare held n 3 [c3] = some x3 from g3)
  obtain ⟨t, e4, w4⟩ := arr_read (show DataW.trod enc Try.prog w base spare held n 22 [c4, c5, c6] = some x4 from g4)
  simp only [List.cons.injEq, and_true] at e0 e1 e2 e3 e4
  obtain ⟨rfl, rfl, rfl⟩ := e4
  subst e0 e1 e2 e3
  exact ⟨⟨n0, n1, n2, n3, t⟩, rfl, i64_of w0, i64_of w1, i64_of w2, i64_of w3, w4⟩
instance : Inhabited Sp := ⟨⟨0, 0, 0, 0, ⟨0, 0, 0⟩⟩⟩
/-- A slice of steps. -/
def SSl (w : World) (ao : Option Addr) (len : Nat) (f : Nat → Sp) : Prop := len = 0 ∨ ∃ b off, ao = some ⟨b, off, none⟩ ∧ b < w.heap.size ∧ ∀ i, i < len → w.rangeAt b (off + i * 7) (f i).c
theorem SSl.below {w w' : World} {ao : Option Addr} {len : Nat} {f : Nat → Sp} (h : SSl w ao len f) (hb : Below w.heap.size w w') : SSl w' ao len f := by
  rcases h with h | ⟨b, off, rfl, hlt, hc⟩
  · exact Or.inl h
  · refine Or.inr ⟨b, off, rfl, Nat.lt_of_lt_of_le hlt hb.size, fun i hi j v hv => ?_⟩
    rw [hb.cell (by exact hlt)]
    exact hc i hi j v hv
theorem SSl.at {w : World} {ao : Option Addr} {len : Nat} {f : Nat → Sp} (h : SSl w ao len f) {k : Nat} (hk : k < len) : ∃ b off, ao = some ⟨b, off, none⟩ ∧ b < w.heap.size ∧ w.cell? ⟨b, off + k * 7, none⟩ = some (i64 (f k).what) ∧ w.cell? ⟨b, off + k * 7 + 1, none⟩ = some (i64 (f k).env) ∧ w.cell? ⟨b, off + k * 7 + 2, none⟩ = some (i64 (f k).kind) ∧ w.cell? ⟨b, off + k * 7 + 3, none⟩ = some (i64 (f k).n) ∧ w.cell? ⟨b, off + k * 7 + 4, none⟩ = some (i64 (f k).q.a) ∧ w.cell? ⟨b, off + k * 7 + 5, none⟩ = some (i64 (f k).q.b) ∧ w.cell? ⟨b, off + k * 7 + 6, none⟩ = some (i64 (f k).q.c) := by
  rcases h with h | ⟨b, off, rfl, hlt, hc⟩
  · omega
  · exact ⟨b, off, rfl, hlt, hc k hk 0 _ rfl, hc k hk 1 _ rfl, hc k hk 2 _ rfl, hc k hk 3 _ rfl, hc k hk 4 _ rfl, hc k hk 5 _ rfl, hc k hk 6 _ rfl⟩
theorem steps_read {H : Type} {enc : TypeId × Value → H} {W : World} {spare : Nat → Bool} {held : Bool} {a : Option Addr} {len cap : Nat} {d : DataW H} {ps : List MemPlace}
    (h : DataW.Trod enc Try.prog W 0 spare held 23 (.slice a len cap) d ps) : len ≤ maxLen ∧ ∃ f, SSl W a len f ∧ ∀ i, i < len → (f i).rng := by
  obtain ⟨hm, f, hw, hc⟩ := slice_read (α := Sp) Sp.c Sp.rng Try.underlying23 cells35 (fun _ => by simp) (fun hr => step_read hr) h
  exact ⟨hm, f, hc, hw⟩
end Go.Proofs.Ytfnhiefngbcnaaa
