/- Lists of numbers, of runs and of writes, out of what was read; no statement is proved in this text. -/
import Derived.Test.YtdgofhhpgmpgjaaSmall
namespace Go.Proofs.Ytdgofhhpgmpgjaa
open Go.ChangeShapes Go.WideShapes Go.ChangeAt Go.RowKit Go.Deep

theorem list2 {α : Type} : ∀ {l : List α}, l.length = 2 → ∃ a b, l = [a, b]
  | [a, b], _ => ⟨a, b, rfl⟩
theorem list1 {α : Type} : ∀ {l : List α}, l.length = 1 → ∃ a, l = [a]
  | [a], _ => ⟨a, rfl⟩
theorem trod_two {H : Type} {enc : TypeId × Value → H} {P : Program} {w : World} {base : Nat} {spare : Nat → Bool} {held : Bool} {t : TypeId} {f0 f1 : Field} {fuel : Nat} {cs : List Value} {x : DataW H × List MemPlace}
    (ht : P.underlying t = some (.struct #[f0, f1])) (hone : oneCellFields P #[f0, f1] = true) (hC : P.cellsOf t = 2) (h : DataW.trod enc P w base spare held fuel t cs = some x) :
    ∃ (c0 c1 : Value) (y0 y1 : DataW H × List MemPlace) (n : Nat), cs = [c0, c1] ∧ DataW.trod enc P w base spare held n f0.type [c0] = some y0 ∧ DataW.trod enc P w base spare held n f1.type [c1] = some y1 := by
  obtain ⟨xs, n, _, _, hl, hlen, hf⟩ := DataW.trod_struct ht h
  obtain ⟨c0, c1, rfl⟩ := list2 (hl.trans hC)
  obtain ⟨x0, x1, rfl⟩ := list2 (show xs.length = 2 from hlen)
  obtain ⟨o0, k0⟩ := hone_of hone 0 f0 rfl
  obtain ⟨o1, k1⟩ := hone_of hone 1 f1 rfl
  exact ⟨c0, c1, x0, x1, n, rfl, by simpa [o0, k0] using hf 0 f0 rfl, by simpa [o1, k1] using hf 1 f1 rfl⟩

theorem cells27 : Try.prog.cellsOf 27 = 2 := by kernel_rfl
theorem cells49 : Try.prog.cellsOf 49 = 2 := by kernel_rfl
theorem cells3 : Try.prog.cellsOf 3 = 1 := by kernel_rfl
theorem i64_of {n : Int} (h : (Lit.int .i64 n).wf = true) : -9223372036854775808 ≤ n ∧ n ≤ 9223372036854775807 := by
  have hmin : IntKind.i64.min = -9223372036854775808 := rfl
  have hmax : IntKind.i64.max = 9223372036854775807 := rfl
  simp only [Lit.wf, Bool.and_eq_true, decide_eq_true_eq] at h
  omega

/-- A slice whose elements have k cells each: its cells, as a function of the place. -/
theorem slice_read {H : Type} {enc : TypeId × Value → H} {W : World} {spare : Nat → Bool} {held : Bool} {a : Option Addr} {len cap : Nat} {d : DataW H} {ps : List MemPlace} {t e : TypeId} {k : Nat} {α : Type} [Inhabited α] (C : α → List Value) (R : α → Prop)
    (ht : Try.prog.underlying t = some (.slice e)) (hk : Try.prog.cellsOf e = k) (hpos : ∀ x, 0 < (C x).length)
    (hR : ∀ {fuel : Nat} {cs : List Value} {x : DataW H × List MemPlace}, DataW.trod enc Try.prog W 0 spare held fuel e cs = some x → ∃ y, cs = C y ∧ R y)
    (h : DataW.Trod enc Try.prog W 0 spare held t (.slice a len cap) d ps) : len ≤ maxLen ∧ ∃ f : Nat → α, (∀ i, i < len → R (f i)) ∧ (len = 0 ∨ ∃ b off, a = some ⟨b, off, none⟩ ∧ b < W.heap.size ∧ ∀ i, i < len → W.rangeAt b (off + i * k) (C (f i))) := by
  obtain ⟨fuel, hf⟩ := h
  rcases Deep.open_slice ht hf with ⟨hcs, _⟩ | ⟨x, len', cap', m, n, D, Pl, hcs, _, hl, hm, hmm, _, hel⟩
  · simp [Value.cells] at hcs
    obtain ⟨rfl, rfl, rfl⟩ := hcs
    exact ⟨Nat.zero_le _, fun _ => default, fun i hi => absurd hi (by omega), Or.inl rfl⟩
  · simp [Value.cells] at hcs
    obtain ⟨rfl, rfl, rfl⟩ := hcs
    refine ⟨Nat.le_trans hl hm, ?_⟩
    have hlm : len ≤ m := by rw [hmm]; split <;> omega
    have hone : ∀ i, ∃ st : α, i < len → (R st ∧ ∀ j v, (C st)[j]? = some v → W.cell? ((x.add (i * k)).add j) = some v) := by
      intro i
      by_cases hi : i < len
      · obtain ⟨cs', hc, hr⟩ := hel i (by omega)
        rw [hk] at hc
        obtain ⟨y, rfl, hy⟩ := hR hr
        refine ⟨y, fun _ => ⟨hy, fun j v hv => ?_⟩⟩
        obtain ⟨_, hlen6, hcell⟩ := World.cells?_some hc
        rw [hcell j (by have := (List.getElem?_eq_some_iff.1 hv).1; rw [← hlen6]; exact this)]
        exact hv
      · exact ⟨default, fun h => absurd h hi⟩
    obtain ⟨f, hf⟩ := Classical.axiomOfChoice hone
    refine ⟨f, fun i hi => (hf i hi).1, ?_⟩
    by_cases h0 : len = 0
    · exact Or.inl h0
    · right
      obtain ⟨b, off, spot⟩ := x
      have hc := (hf 0 (by omega)).2 0 _ (List.getElem?_eq_getElem (hpos (f 0)))
      have hspot : spot = none := by simpa [Addr.add] using World.cell?_spot hc
      subst hspot
      have hlt := World.block_lt_of_cell? W _ hc
      rw [Addr.add_mid, Addr.add_mid] at hlt
      refine ⟨b, off, rfl, hlt, fun i hi j v hv => ?_⟩
      have := (hf i hi).2 j v hv
      rw [Addr.add_mid, Addr.add_mid] at this
      exact this

theorem range_get {α : Type} (f : Nat → α) (len i : Nat) (x : α) (h : ((List.range len).map f)[i]? = some x) : i < len ∧ x = f i := by
  have hi : i < len := by have := (List.getElem?_eq_some_iff.1 h).1; simpa using this
  refine ⟨hi, ?_⟩
  rw [List.getElem?_map, List.getElem?_range hi] at h
  simpa using h.symm

theorem ints_read {H : Type} {enc : TypeId × Value → H} {W : World} {spare : Nat → Bool} {held : Bool} {a : Option Addr} {len cap : Nat} {d : DataW H} {ps : List MemPlace}
    (h : DataW.Trod enc Try.prog W 0 spare held 22 (.slice a len cap) d ps) : len ≤ maxLen ∧ ∃ xs : List Int, xs.length = len ∧ ISl W a xs := by
  obtain ⟨hm, f, _, hc⟩ := slice_read (α := Int) (fun x => [i64 x]) (fun _ => True) Try.underlying22 cells3 (fun _ => by simp) (fun hr => by
    obtain ⟨n, e, _, _⟩ := DataW.trod_int Try.underlying3 hr
    exact ⟨n, e, trivial⟩) h
  refine ⟨hm, (List.range len).map f, by simp, ?_⟩
  rcases hc with rfl | ⟨b, off, rfl, hlt, hc⟩
  · exact Or.inl rfl
  · refine Or.inr ⟨b, off, rfl, hlt, fun i x hx => ?_⟩
    obtain ⟨hi, rfl⟩ := range_get f len i x hx
    have := hc i hi 0 _ rfl
    rw [Nat.mul_one] at this
    exact this
theorem runs_read {H : Type} {enc : TypeId × Value → H} {W : World} {spare : Nat → Bool} {held : Bool} {a : Option Addr} {len cap : Nat} {d : DataW H} {ps : List MemPlace}
    (h : DataW.Trod enc Try.prog W 0 spare held 23 (.slice a len cap) d ps) : len ≤ maxLen ∧ ∃ rs : List Rn, rs.length = len ∧ RSl W a rs ∧ ∀ r ∈ rs, wfR r := by
  obtain ⟨hm, f, hw, hc⟩ := slice_read (α := Rn) (fun x => [i64 x.1, i64 x.2]) wfR Try.underlying23 cells27 (fun _ => by simp) (fun hr => by
    obtain ⟨c0, c1, y0, y1, n, rfl, g0, g1⟩ := trod_two Try.underlying27 (by kernel_rfl) cells27 hr
    obtain ⟨n0, e0, _, w0⟩ := DataW.trod_int Try.underlying3 g0
    obtain ⟨n1, e1, _, w1⟩ := DataW.trod_int Try.underlying3 g1
    simp only [List.cons.injEq, and_true] at e0 e1
    subst e0 e1
    exact ⟨(n0, n1), rfl, i64_of w0, i64_of w1⟩) h
  refine ⟨hm, (List.range len).map f, by simp, ?_, fun r hr => ?_⟩
  · rcases hc with rfl | ⟨b, off, rfl, hlt, hc⟩
    · exact Or.inl rfl
    · refine Or.inr ⟨b, off, rfl, hlt, fun i x hx => ?_⟩
      obtain ⟨hi, rfl⟩ := range_get f len i x hx
      exact ⟨hc i hi 0 _ rfl, hc i hi 1 _ rfl⟩
  · obtain ⟨i, hi, rfl⟩ := List.mem_map.1 hr
    exact hw i (by simpa using hi)
/-- A write: At and S. -/
theorem write_read {H : Type} {enc : TypeId × Value → H} {w : World} {base : Nat} {spare : Nat → Bool} {held : Bool} {fuel : Nat} {cs : List Value} {x : DataW H × List MemPlace}
    (h : DataW.trod enc Try.prog w base spare held fuel 49 cs = some x) : ∃ (at_ : Int) (s : ByteArray), cs = [i64 at_, .string s] ∧ s.size ≤ maxLen := by
  obtain ⟨c0, c1, y0, y1, n, rfl, g0, g1⟩ := trod_two Try.underlying49 (by kernel_rfl) cells49 h
  obtain ⟨n0, e0, _, w0⟩ := DataW.trod_int Try.underlying3 g0
  obtain ⟨s, e1, _, w1⟩ := DataW.trod_string Try.underlying9 g1
  simp only [List.cons.injEq, and_true] at e0 e1
  subst e0 e1
  exact ⟨n0, s, rfl, w1⟩

structure Wr where
  at_ : Int
  s : ByteArray
instance : Inhabited Wr := ⟨⟨0, ⟨#[]⟩⟩⟩
def Wr.cells (x : Wr) : List Value := [i64 x.at_, .string x.s]
/-- A slice of writes. -/
def WSl (w : World) (ao : Option Addr) (len : Nat) (f : Nat → Wr) : Prop := len = 0 ∨ ∃ b off, ao = some ⟨b, off, none⟩ ∧ b < w.heap.size ∧ ∀ i, i < len → w.rangeAt b (off + i * 2) (f i).cells
theorem WSl.below {w w' : World} {ao : Option Addr} {len : Nat} {f : Nat → Wr} (h : WSl w ao len f) (hb : Below w.heap.size w w') : WSl w' ao len f := by
  rcases h with h | ⟨b, off, rfl, hlt, hc⟩
  · exact Or.inl h
  · refine Or.inr ⟨b, off, rfl, Nat.lt_of_lt_of_le hlt hb.size, fun i hi j v hv => ?_⟩
    rw [hb.cell (by exact hlt)]
    exact hc i hi j v hv
theorem WSl.at {w : World} {ao : Option Addr} {len : Nat} {f : Nat → Wr} (h : WSl w ao len f) {k : Nat} (hk : k < len) : ∃ b off, ao = some ⟨b, off, none⟩ ∧ b < w.heap.size ∧ w.cell? ⟨b, off + k * 2, none⟩ = some (i64 (f k).at_) ∧ w.cell? ⟨b, off + k * 2 + 1, none⟩ = some (.string (f k).s) := by
  rcases h with h | ⟨b, off, rfl, hlt, hc⟩
  · omega
  · exact ⟨b, off, rfl, hlt, hc k hk 0 _ rfl, hc k hk 1 _ rfl⟩
theorem writes_read {H : Type} {enc : TypeId × Value → H} {W : World} {spare : Nat → Bool} {held : Bool} {a : Option Addr} {len cap : Nat} {d : DataW H} {ps : List MemPlace}
    (h : DataW.Trod enc Try.prog W 0 spare held 41 (.slice a len cap) d ps) : len ≤ maxLen ∧ ∃ f, WSl W a len f ∧ ∀ i, i < len → (f i).s.size ≤ maxLen := by
  obtain ⟨hm, f, hw, hc⟩ := slice_read (α := Wr) Wr.cells (fun x => x.s.size ≤ maxLen) Try.underlying41 cells49 (fun _ => by simp [Wr.cells]) (fun hr => by
    obtain ⟨at_, s, e, hs⟩ := write_read hr
    exact ⟨⟨at_, s⟩, e, hs⟩) h
  exact ⟨hm, f, hc, hw⟩
end Go.Proofs.Ytdgofhhpgmpgjaa
