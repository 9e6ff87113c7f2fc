/- Steps and lists of steps, out of what was read; no statement is proved in this text. -/
import Derived.Test.YtblhoaggonjhkaaNine
namespace Go.Proofs.Ytblhoaggonjhkaa
open Go.ChangeShapes Go.WideShapes Go.ChangeAt Go.RowKit Go.Deep

theorem i64_of {n : Int} (h : (Lit.int .i64 n).wf = true) : -9223372036854775808 ≤ n ∧ n ≤ 9223372036854775807 := by
  have hmin : IntKind.i64.min = -9223372036854775808 := rfl
  have hmax : IntKind.i64.max = 9223372036854775807 := rfl
  simp only [Lit.wf, Bool.and_eq_true, decide_eq_true_eq] at h
  omega
structure St where
  what : Int
  k : K3
  e : En
instance : Inhabited St := ⟨⟨0, ⟨0, 0, 0⟩, ⟨0, false⟩⟩⟩
def St.cells (x : St) : List Value := [i64 x.what, i64 x.k.env, i64 x.k.proc, i64 x.k.page, i64 x.e.frame, .bool x.e.wr]
theorem cells35 : Try.prog.cellsOf 35 = 6 := by kernel_rfl
theorem cells31 : Try.prog.cellsOf 31 = 3 := by kernel_rfl
theorem cells33 : Try.prog.cellsOf 33 = 2 := by kernel_rfl
theorem list3 {α : Type} : ∀ {l : List α}, l.length = 3 → ∃ a b c, l = [a, b, c]
  | [a, b, c], _ => ⟨a, b, c, rfl⟩
theorem list2 {α : Type} : ∀ {l : List α}, l.length = 2 → ∃ a b, l = [a, b]
  | [a, b], _ => ⟨a, b, rfl⟩
theorem list6 {α : Type} : ∀ {l : List α}, l.length = 6 → ∃ a b c d e f, l = [a, b, c, d, e, f]
  | [a, b, c, d, e, f], _ => ⟨a, b, c, d, e, f, rfl⟩

theorem key_read {H : Type} {enc : TypeId × Value → H} {w : World} {base : Nat} {spare : Nat → Bool} {held : Bool} {fuel : Nat} {cs : List Value} {x : DataW H × List MemPlace}
    (h : DataW.trod enc Try.prog w base spare held fuel 31 cs = some x) : ∃ k : K3, cs = [i64 k.env, i64 k.proc, i64 k.page] := by
  obtain ⟨xs, n, _, _, hl, hlen, hf⟩ := DataW.trod_struct Try.underlying31 h
  obtain ⟨c0, c1, c2, rfl⟩ := list3 (hl.trans cells31)
  obtain ⟨x0, x1, x2, rfl⟩ := list3 (show xs.length = 3 from hlen)
  have c3 : Try.prog.cellsOf 3 = 1 := by kernel_rfl
  have g0 : DataW.trod enc Try.prog w base spare held n 3 (([c0, c1, c2].drop 0).take (Try.prog.cellsOf 3)) = some x0 := hf 0 _ rfl
  have g1 : DataW.trod enc Try.prog w base spare held n 3 (([c0, c1, c2].drop 1).take (Try.prog.cellsOf 3)) = some x1 := hf 1 _ rfl
  have g2 : DataW.trod enc Try.prog w base spare held n 3 (([c0, c1, c2].drop 2).take (Try.prog.cellsOf 3)) = some x2 := hf 2 _ rfl
  rw [c3] at g0 g1 g2
  change DataW.trod enc Try.prog w base spare held n 3 [c0] = _ at g0
  change DataW.trod enc Try.prog w base spare held n 3 [c1] = _ at g1
  change DataW.trod enc Try.prog w base spare held n 3 [c2] = _ at g2
  obtain ⟨n0, e0, _, _⟩ := DataW.trod_int Try.underlying3 g0
  obtain ⟨n1, e1, _, _⟩ := DataW.trod_int Try.underlying3 g1
  obtain ⟨n2, e2, _, _⟩ := DataW.trod_int Try.underlying3 g2
  simp only [List.cons.injEq, and_true] at e0 e1 e2
  subst e0 e1 e2
  exact ⟨⟨n0, n1, n2⟩, rfl⟩
theorem ent_read {H : Type} {enc : TypeId × Value → H} {w : World} {base : Nat} {spare : Nat → Bool} {held : Bool} {fuel : Nat} {cs : List Value} {x : DataW H × List MemPlace}
    (h : DataW.trod enc Try.prog w base spare held fuel 33 cs = some x) : ∃ e : En, cs = [i64 e.frame, .bool e.wr] := by
  obtain ⟨xs, n, _, _, hl, hlen, hf⟩ := DataW.trod_struct Try.underlying33 h
  obtain ⟨c0, c1, rfl⟩ := list2 (hl.trans cells33)
  obtain ⟨x0, x1, rfl⟩ := list2 (show xs.length = 2 from hlen)
  have c3 : Try.prog.cellsOf 3 = 1 := by kernel_rfl
  have c4 : Try.prog.cellsOf 4 = 1 := by kernel_rfl
  have g0 : DataW.trod enc Try.prog w base spare held n 3 (([c0, c1].drop 0).take (Try.prog.cellsOf 3)) = some x0 := hf 0 _ rfl
  have g1 : DataW.trod enc Try.prog w base spare held n 4 (([c0, c1].drop 1).take (Try.prog.cellsOf 4)) = some x1 := hf 1 _ rfl
  rw [c3] at g0
  rw [c4] at g1
  change DataW.trod enc Try.prog w base spare held n 3 [c0] = _ at g0
  change DataW.trod enc Try.prog w base spare held n 4 [c1] = _ at g1
  obtain ⟨n0, e0, _, _⟩ := DataW.trod_int Try.underlying3 g0
  obtain ⟨b1, e1, _⟩ := DataW.trod_bool Try.underlying4 g1
  simp only [List.cons.injEq, and_true] at e0 e1
  subst e0 e1
  exact ⟨⟨n0, b1⟩, rfl⟩
theorem step_read {H : Type} {enc : TypeId × Value → H} {w : World} {base : Nat} {spare : Nat → Bool} {held : Bool} {fuel : Nat} {cs : List Value} {x : DataW H × List MemPlace}
    (h : DataW.trod enc Try.prog w base spare held fuel 35 cs = some x) : ∃ s : St, cs = s.cells := by
  obtain ⟨xs, n, _, _, hl, hlen, hf⟩ := DataW.trod_struct Try.underlying35 h
  obtain ⟨c0, c1, c2, c3, c4, c5, rfl⟩ := list6 (hl.trans cells35)
  obtain ⟨x0, x1, x2, rfl⟩ := list3 (show xs.length = 3 from hlen)
  have q3 : Try.prog.cellsOf 3 = 1 := by kernel_rfl
  have g0 : DataW.trod enc Try.prog w base spare held n 3 (([c0, c1, c2, c3, c4, c5].drop 0).take (Try.prog.cellsOf 3)) = some x0 := hf 0 _ rfl
  have g1 : DataW.trod enc Try.prog w base spare held n 31 (([c0, c1, c2, c3, c4, c5].drop 1).take (Try.prog.cellsOf 31)) = some x1 := hf 1 _ rfl
  have g2 : DataW.trod enc Try.prog w base spare held n 33 (([c0, c1, c2, c3, c4, c5].drop 4).take (Try.prog.cellsOf 33)) = some x2 := hf 2 _ rfl
  rw [q3] at g0
  rw [cells31] at g1
  rw [cells33] at g2
  change DataW.trod enc Try.prog w base spare held n 3 [c0] = _ at g0
  change DataW.trod enc Try.prog w base spare held n 31 [c1, c2, c3] = _ at g1
  change DataW.trod enc Try.prog w base spare held n 33 [c4, c5] = _ at g2
  obtain ⟨n0, e0, _, _⟩ := DataW.trod_int Try.underlying3 g0
  obtain ⟨k, e1⟩ := key_read g1
  obtain ⟨e, e2⟩ := ent_read g2
  simp only [List.cons.injEq, and_true] at e0 e1 e2
  obtain ⟨r1, r2, r3⟩ := e1
  obtain ⟨r4, r5⟩ := e2
  subst e0 r1 r2 r3 r4 r5
  exact ⟨⟨n0, k, e⟩, rfl⟩

/-- A slice of steps. -/
def SSl (w : World) (ao : Option Addr) (len : Nat) (f : Nat → St) : Prop := len = 0 ∨ ∃ b off, ao = some ⟨b, off, none⟩ ∧ b < w.heap.size ∧ ∀ i, i < len → w.rangeAt b (off + i * 6) (f i).cells
theorem SSl.below {w w' : World} {ao : Option Addr} {len : Nat} {f : Nat → St} (h : SSl w ao len f) (hb : Below w.heap.size w w') : SSl w' ao len f := by
  rcases h with h | ⟨b, off, rfl, hlt, hc⟩
  · exact Or.inl h
  · refine Or.inr ⟨b, off, rfl, Nat.lt_of_lt_of_le hlt hb.size, fun i hi j v hv => ?_⟩
    rw [hb.cell (by exact hlt)]
    exact hc i hi j v hv
theorem SSl.at {w : World} {ao : Option Addr} {len : Nat} {f : Nat → St} (h : SSl w ao len f) {k : Nat} (hk : k < len) : ∃ b off, ao = some ⟨b, off, none⟩ ∧ b < w.heap.size ∧
    w.cell? ⟨b, off + k * 6, none⟩ = some (i64 (f k).what) ∧ w.cell? ⟨b, off + k * 6 + 1, none⟩ = some (i64 (f k).k.env) ∧ w.cell? ⟨b, off + k * 6 + 2, none⟩ = some (i64 (f k).k.proc) ∧ w.cell? ⟨b, off + k * 6 + 3, none⟩ = some (i64 (f k).k.page) ∧ w.cell? ⟨b, off + k * 6 + 4, none⟩ = some (i64 (f k).e.frame) ∧ w.cell? ⟨b, off + k * 6 + 5, none⟩ = some (.bool (f k).e.wr) := by
  rcases h with h | ⟨b, off, rfl, hlt, hc⟩
  · omega
  · exact ⟨b, off, rfl, hlt, hc k hk 0 _ rfl, hc k hk 1 _ rfl, hc k hk 2 _ rfl, hc k hk 3 _ rfl, hc k hk 4 _ rfl, hc k hk 5 _ rfl⟩
theorem steps_read {H : Type} {enc : TypeId × Value → H} {W : World} {spare : Nat → Bool} {held : Bool} {a : Option Addr} {len cap : Nat} {d : DataW H} {ps : List MemPlace}
    (h : DataW.Trod enc Try.prog W 0 spare held 22 (.slice a len cap) d ps) : len ≤ maxLen ∧ ∃ f, SSl W a len f := by
  obtain ⟨fuel, hf⟩ := h
  rcases Deep.open_slice Try.underlying22 hf with ⟨hcs, _⟩ | ⟨x, len', cap', m, n, D, Pl, hcs, _, hl, hm, hmm, _, hel⟩
  · simp [Value.cells] at hcs
    obtain ⟨rfl, rfl, rfl⟩ := hcs
    exact ⟨Nat.zero_le _, fun _ => default, Or.inl rfl⟩
  · simp [Value.cells] at hcs
    obtain ⟨rfl, rfl, rfl⟩ := hcs
    refine ⟨Nat.le_trans hl hm, ?_⟩
    have hlm : len ≤ m := by rw [hmm]; split <;> omega
    have hone : ∀ i, ∃ st : St, i < len → ∀ j v, st.cells[j]? = some v → W.cell? ((x.add (i * 6)).add j) = some v := by
      intro i
      by_cases hi : i < len
      · obtain ⟨cs', hc, hr⟩ := hel i (by omega)
        rw [cells35] at hc
        obtain ⟨s, rfl⟩ := step_read hr
        refine ⟨s, fun _ j v hv => ?_⟩
        obtain ⟨_, hlen6, hcell⟩ := World.cells?_some hc
        rw [hcell j (by have := (List.getElem?_eq_some_iff.1 hv).1; rw [← hlen6]; exact this)]
        exact hv
      · exact ⟨default, fun h => absurd h hi⟩
    obtain ⟨f, hf⟩ := Classical.axiomOfChoice hone
    refine ⟨f, ?_⟩
    by_cases h0 : len = 0
    · exact Or.inl h0
    · right
      obtain ⟨b, off, spot⟩ := x
      have hc := hf 0 (by omega) 0 _ rfl
      have hspot : spot = none := by simpa [Addr.add] using World.cell?_spot hc
      subst hspot
      have hlt := World.block_lt_of_cell? W _ hc
      rw [Addr.add_mid, Addr.add_mid] at hlt
      refine ⟨b, off, rfl, hlt, fun i hi j v hv => ?_⟩
      have := hf i hi j v hv
      rw [Addr.add_mid, Addr.add_mid] at this
      exact this
end Go.Proofs.Ytblhoaggonjhkaa
