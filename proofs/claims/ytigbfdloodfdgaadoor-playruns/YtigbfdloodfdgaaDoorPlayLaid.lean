/- What the listed variable gives (the table of shapes lies in its cells), how arguments are read, and how a law's walk becomes its row; no statement is proved in this text. -/
import Derived.Test.YtigbfdloodfdgaaDoorPlayMoreY
import Derived.Test.YtigbfdloodfdgaaDoorCards
import Derived.Test.YtigbfdloodfdgaaDoorTie
import Derived.LaidMore
import Derived.Stop.Joined
import Derived.SevenTiedAt
import Derived.ChangeOld
import Derived.ChangeSame
import Derived.ShutString
import Derived.Carry
import Derived.Deep.Slices
namespace Go.Proofs.YtigbfdloodfdgaaDoor
open Go.ChangeShapes Go.WideShapes Go.ChangeAt Go.RowKit

abbrev laidL {H : Type} : List (String × DataW H) := [("imago/code.shapes", Rows.laid_imago_code_shapes)]
theorem own : ownKnob Tryd.prog.godebug = none := by kernel_rfl
theorem laidOut : laidOutB Tryd.prog = true := by kernel_rfl
theorem gShapes : Tryd.prog.globalNamed "imago/code.shapes" = some 0 := by kernel_rfl
theorem tShapes : (Tryd.prog.globals[0]?).map (·.type) = some 104 := by kernel_rfl
theorem cells55 : Tryd.prog.cellsOf 103 = 2 := by kernel_rfl

theorem door_met (os : Os) (args : Array Value) : laidMetH Tryd.prog laidL ((World.doorLaid Tryd.prog 400 os).forCall (fun _ _ => 0) ⟨#[], args, []⟩).memory :=
  laidMetH_of_parts3 (fuel := 8) (laidMet_of_run' 8 (by kernel_rfl) (by kernel_rfl)) (by kernel_rfl) (by kernel_rfl)

theorem list2 {α : Type} : ∀ {l : List α}, l.length = 2 → ∃ a b, l = [a, b]
  | [a, b], _ => ⟨a, b, rfl⟩
theorem list3 {α : Type} : ∀ {l : List α}, l.length = 3 → ∃ a b c, l = [a, b, c]
  | [a, b, c], _ => ⟨a, b, c, rfl⟩
theorem shape_read {H : Type} {enc : TypeId × Value → H} {w : World} {base : Nat} {spare : Nat → Bool} {held : Bool} {fuel : Nat} {cs : List Value} {x : DataW H × List MemPlace}
    (h : DataW.trod enc Tryd.prog w base spare held fuel 103 cs = some x) : ∃ r n : Int, cs = [i64 r, i64 n] ∧ x.1 = .agg [.lit (.int .i64 r), .lit (.int .i64 n)] := by
  obtain ⟨xs, n, _, hx, hl, hlen, hf⟩ := DataW.trod_struct Tryd.underlying103 h
  obtain ⟨c0, c1, rfl⟩ := list2 (hl.trans cells55)
  obtain ⟨x0, x1, rfl⟩ := list2 (show xs.length = 2 from hlen)
  have g0 : DataW.trod enc Tryd.prog w base spare held n 3 (([c0, c1].drop 0).take (Tryd.prog.cellsOf 3)) = some x0 := hf 0 _ rfl
  have g1 : DataW.trod enc Tryd.prog w base spare held n 3 (([c0, c1].drop 1).take (Tryd.prog.cellsOf 3)) = some x1 := hf 1 _ rfl
  rw [cellsOf3] at g0 g1
  change DataW.trod enc Tryd.prog w base spare held n 3 [c0] = _ at g0
  change DataW.trod enc Tryd.prog w base spare held n 3 [c1] = _ at g1
  obtain ⟨n0, e0, f0, _⟩ := DataW.trod_int Tryd.underlying3 g0
  obtain ⟨n1, e1, f1, _⟩ := DataW.trod_int Tryd.underlying3 g1
  simp only [List.cons.injEq, and_true] at e0 e1
  subst e0 e1
  refine ⟨n0, n1, rfl, ?_⟩
  rw [hx]
  simp [f0, f1]
/-- The condition gives the table. -/
theorem of_laid {W : World} (h : laidMetH Tryd.prog laidL W) : Tab W := by
  rw [MakeChecks.laidMetH_plain _ _ _ (by kernel_rfl)] at h
  obtain ⟨ps, ⟨g0, t0, cs0, f0, p0, q0, hg0, ht0, hv0, hd0, _, _⟩, _⟩ := h
  obtain rfl := Option.some.inj (gShapes.symm.trans hg0)
  obtain rfl := Option.some.inj (tShapes.symm.trans ht0)
  obtain ⟨xs, m1, rfl, hx1, hlen, hn3, hel⟩ := DataW.trod_array Tryd.underlying104 hd0
  simp only [Prod.mk.injEq] at hx1
  intro i hi
  have hi' := hel i (by omega)
  rw [cells55] at hi'
  obtain ⟨x, hx⟩ : ∃ x, xs[i]? = some x := ⟨_, List.getElem?_eq_getElem (by omega)⟩
  rw [hx] at hi'
  obtain ⟨r, n, e1, e2⟩ := shape_read hi'
  have hc := fun j => World.var?_cell hg0 hv0 j
  have hcs : ∀ j, j < 2 → cs0[i * 2 + j]? = [i64 r, i64 n][j]? := by
    intro j hj
    rw [← e1, List.getElem?_take_of_lt hj, List.getElem?_drop]
    simp
  have hk : (xs.map (·.1))[i]? = some (.agg [.lit (.int .i64 r), .lit (.int .i64 n)]) := by
    rw [List.getElem?_map, hx]
    simp [e2]
  have hd := hx1.1
  unfold Rows.laid_imago_code_shapes at hd
  simp only [DataW.agg.injEq] at hd
  rw [← hd] at hk
  have h0 := hcs 0 (by omega)
  have h1 := hcs 1 (by omega)
  rw [Nat.add_zero] at h0
  rw [hc, hc, h0, h1]
  clear hcs h0 h1 hc e1 e2 hx hi' hd hx1 hel
  rcases i with _|_|_|_|_|_|_|_|_|_|_|_|_|_|_|_|_|_|_|_|_|i
  all_goals first
    | omega
    | (simp at hk; obtain ⟨rfl, rfl⟩ := hk; exact ⟨rfl, rfl⟩)

/-- A slice whose elements have k cells each: its cells, as a function of the place. -/
theorem slice_read {H : Type} {enc : TypeId × Value → H} {W : World} {spare : Nat → Bool} {held : Bool} {a : Option Addr} {len cap : Nat} {d : DataW H} {ps : List MemPlace} {t e : TypeId} {k : Nat} {α : Type} [Inhabited α] (C : α → List Value) (R : α → Prop)
    (ht : Tryd.prog.underlying t = some (.slice e)) (hk : Tryd.prog.cellsOf e = k) (hpos : ∀ x, 0 < (C x).length)
    (hR : ∀ {fuel : Nat} {cs : List Value} {x : DataW H × List MemPlace}, DataW.trod enc Tryd.prog W 0 spare held fuel e cs = some x → ∃ y, cs = C y ∧ R y)
    (h : DataW.Trod enc Tryd.prog W 0 spare held t (.slice a len cap) d ps) : len ≤ maxLen ∧ ∃ f : Nat → α, (∀ i, i < len → R (f i)) ∧ (len = 0 ∨ ∃ b off, a = some ⟨b, off, none⟩ ∧ b < W.heap.size ∧ ∀ i, i < len → W.rangeAt b (off + i * k) (C (f i))) := by
  obtain ⟨fuel, hf⟩ := h
  rcases Deep.open_slice ht hf with ⟨hcs, _⟩ | ⟨x, len', cap', m, n, D, Pl, hcs, _, hl, hm, hmm, _, hel⟩
  · simp [Value.cells] at hcs
    obtain ⟨rfl, rfl, rfl⟩ := hcs
    exact ⟨Nat.zero_le _, fun _ => default, fun i hi => absurd hi (by omega), Or.inl rfl⟩
  · simp [Value.cells] at hcs
    obtain ⟨rfl, rfl, rfl⟩ := hcs
    refine ⟨Nat.le_trans hl hm, ?_⟩
    have hlm : len ≤ m := by rw [hmm]; split <;> omega
    have hone : ∀ i, ∃ st : α, i < len → (R st ∧ ∀ j v, (C st)[j]? = some v → W.cell? ((x.add (i * k)).add j) = some v) := by
      intro i
      by_cases hi : i < len
      · obtain ⟨cs', hc, hr⟩ := hel i (by omega)
        rw [hk] at hc
        obtain ⟨y, rfl, hy⟩ := hR hr
        refine ⟨y, fun _ => ⟨hy, fun j v hv => ?_⟩⟩
        obtain ⟨_, hlen6, hcell⟩ := World.cells?_some hc
        rw [hcell j (by have := (List.getElem?_eq_some_iff.1 hv).1; rw [← hlen6]; exact this)]
        exact hv
      · exact ⟨default, fun h => absurd h hi⟩
    obtain ⟨f, hf⟩ := Classical.axiomOfChoice hone
    refine ⟨f, fun i hi => (hf i hi).1, ?_⟩
    by_cases h0 : len = 0
    · exact Or.inl h0
    · right
      obtain ⟨b, off, spot⟩ := x
      have hc := (hf 0 (by omega)).2 0 _ (List.getElem?_eq_getElem (hpos (f 0)))
      have hspot : spot = none := by simpa [Addr.add] using World.cell?_spot hc
      subst hspot
      have hlt := World.block_lt_of_cell? W _ hc
      rw [Addr.add_mid, Addr.add_mid] at hlt
      refine ⟨b, off, rfl, hlt, fun i hi j v hv => ?_⟩
      have := (hf i hi).2 j v hv
      rw [Addr.add_mid, Addr.add_mid] at this
      exact this

theorem range_get {α : Type} (f : Nat → α) (len i : Nat) (x : α) (h : ((List.range len).map f)[i]? = some x) : i < len ∧ x = f i := by
  have hi : i < len := by have := (List.getElem?_eq_some_iff.1 h).1; simpa using this
  refine ⟨hi, ?_⟩
  rw [List.getElem?_map, List.getElem?_range hi] at h
  simpa using h.symm

set_option maxRecDepth 100000 in
theorem ints_read {H : Type} {enc : TypeId × Value → H} {W : World} {spare : Nat → Bool} {held : Bool} {a : Option Addr} {len cap : Nat} {d : DataW H} {ps : List MemPlace} (hcap : len ≤ cap) (hcm : cap ≤ maxLen)
    (h : DataW.Trod enc Tryd.prog W 0 spare held 22 (.slice a len cap) d ps) : ∃ A : List Int, A.length = len ∧ ASl W W.heap.size W.heap.size (.slice a len cap) A := by
  obtain ⟨hm, f, _, hc⟩ := slice_read (α := Int) (fun x => [i64 x]) (fun _ => True) Tryd.underlying22 cellsOf3 (fun _ => by simp) (fun hr => by
    obtain ⟨n, e, _, _⟩ := DataW.trod_int Tryd.underlying3 hr
    exact ⟨n, e, trivial⟩) h
  refine ⟨(List.range len).map f, by simp, ⟨a, cap, by simp, by simpa using hcap, hcm, ?_⟩⟩
  rcases hc with rfl | ⟨b, off, rfl, hlt, hc⟩
  · exact Or.inl rfl
  · refine Or.inr ⟨b, off, rfl, hlt, by omega, fun i x hx => ?_⟩
    obtain ⟨hi, rfl⟩ := range_get f len i x hx
    have := hc i hi 0 _ rfl
    rw [Nat.mul_one] at this
    exact this
theorem cellsOf24 : Tryd.prog.cellsOf 24 = 3 := by kernel_rfl
theorem cellsOf9 : Tryd.prog.cellsOf 9 = 1 := by kernel_rfl
theorem cellsOf22 : Tryd.prog.cellsOf 22 = 1 := by kernel_rfl
set_option maxRecDepth 100000 in
theorem job_arg {H : Type} {enc : TypeId × Value → H} {W : World} {r : Reach} {b0 : Nat} {spare : Nat → Bool} {held : Bool} {v : Value} {d : DataW H} {ps : List MemPlace} (hv : Value.okWide Tryd.prog W r b0 24 v)
    (h : DataW.Trod enc Tryd.prog W 0 spare held 24 v d ps) : ∃ (l m : List UInt8) (ao : Option Addr) (cap : Nat) (A : List Int), v = jobV l m ao A.length cap ∧ ASl W W.heap.size W.heap.size (.slice ao A.length cap) A := by
  obtain ⟨⟨cs⟩, rfl, _⟩ := okWide_struct Tryd.underlying24 hv
  obtain ⟨fuel, hf⟩ := h
  have hf' : DataW.trod enc Tryd.prog W 0 spare held fuel 24 cs = some (d, ps) := hf
  obtain ⟨xs, n, _, hx, hl, hlen, hfl⟩ := DataW.trod_struct Tryd.underlying24 hf'
  obtain ⟨c0, c1, c2, rfl⟩ := list3 (hl.trans cellsOf24)
  obtain ⟨x0, x1, x2, rfl⟩ := list3 (show xs.length = 3 from hlen)
  have g0 : DataW.trod enc Tryd.prog W 0 spare held n 9 (([c0, c1, c2].drop 0).take (Tryd.prog.cellsOf 9)) = some x0 := hfl 0 _ rfl
  have g1 : DataW.trod enc Tryd.prog W 0 spare held n 9 (([c0, c1, c2].drop 1).take (Tryd.prog.cellsOf 9)) = some x1 := hfl 1 _ rfl
  have g2 : DataW.trod enc Tryd.prog W 0 spare held n 22 (([c0, c1, c2].drop 2).take (Tryd.prog.cellsOf 22)) = some x2 := hfl 2 _ rfl
  rw [cellsOf9] at g0 g1
  rw [cellsOf22] at g2
  change DataW.trod enc Tryd.prog W 0 spare held n 9 [c0] = _ at g0
  change DataW.trod enc Tryd.prog W 0 spare held n 9 [c1] = _ at g1
  change DataW.trod enc Tryd.prog W 0 spare held n 22 [c2] = _ at g2
  obtain ⟨t0, e0, _, _⟩ := DataW.trod_string Tryd.underlying9 g0
  obtain ⟨t1, e1, _, _⟩ := DataW.trod_string Tryd.underlying9 g1
  simp only [List.cons.injEq, and_true] at e0 e1
  subst e0 e1
  have hsl : ∃ a len cap, c2 = .slice a len cap ∧ len ≤ cap ∧ cap ≤ maxLen := by
    rcases Deep.open_slice Tryd.underlying22 g2 with ⟨hcs, _⟩ | ⟨x, len', cap', m, n', D, Pl, hcs, _, hl', hm, _⟩
    · simp only [List.cons.injEq, and_true] at hcs
      exact ⟨_, _, _, hcs, Nat.le_refl _, Nat.zero_le _⟩
    · simp only [List.cons.injEq, and_true] at hcs
      exact ⟨_, _, _, hcs, hl', hm⟩
  obtain ⟨a, len, cap, rfl, h1, h2⟩ := hsl
  obtain ⟨A, rfl, hA⟩ := ints_read (enc := enc) (d := x2.1) (ps := x2.2) h1 h2 ⟨n, g2⟩
  exact ⟨t0.data.toList, t1.data.toList, a, cap, A, by simp, hA⟩
set_option maxRecDepth 100000 in
theorem more_any (w : World) (ht : Tab w) (l m : List UInt8) (ao : Option Addr) (cap : Nat) (A : List Int) (ha : ASl w w.heap.size w.heap.size (.slice ao A.length cap) A) (fuel more : Int) :
    Calls Tryd.prog 5 #[jobV l m ao A.length cap, i64 fuel, i64 more] w fun e w' => e = .returned (.bool true) ∧ Below w.heap.size w w' := by
  by_cases ho : decide (600 < l.length ∨ 600 < m.length ∨ 100 < A.length) = true ∨ fuel < 0 ∨ 300 < fuel ∨ more < 0 ∨ 300 < more
  · exact more_out w ht l m ao A.length cap fuel more _ rfl ho
  · have hd : decide (600 < l.length ∨ 600 < m.length ∨ 100 < A.length) = false := by
      cases hb : decide (600 < l.length ∨ 600 < m.length ∨ 100 < A.length) with
      | true => exact absurd (Or.inl hb) ho
      | false => rfl
    have hf : ¬ (fuel < 0 ∨ 300 < fuel ∨ more < 0 ∨ 300 < more) := fun h => ho (Or.inr h)
    by_cases h256 : 256 < l.length ∨ 256 < m.length
    · exact more_long w ht l m ao A.length cap fuel more hd (by omega) (by omega) (by omega) (by omega) h256
    · obtain ⟨F, rfl⟩ := Int.eq_ofNat_of_zero_le (show 0 ≤ fuel by omega)
      obtain ⟨D, rfl⟩ := Int.eq_ofNat_of_zero_le (show 0 ≤ more by omega)
      exact more_in w ht l m ao cap A F D hd (by omega) (by omega) (by omega) (by omega) ha
/-- Arguments read again. -/
theorem trodAll_stays {H : Type} {enc : TypeId × Value → H} {P : Program} (hl : laidOutB P = true) {W W' : World} (hb : Below W.heap.size W W') : ∀ (ts : List TypeId) (vs : List Value) (ds : List (DataW H)) (ps : List MemPlace),
    (ts.all fun t => P.readableRec t && decide (t < P.types.size)) = true → DataW.TrodAll enc P W 0 (fun _ => true) true ts vs ds ps → DataW.TrodAll enc P W' 0 (fun b => decide (b < W.heap.size)) true ts vs ds ps
  | [], vs, ds, ps, _, h => by
    obtain ⟨rfl, rfl, rfl⟩ := trodAll_nil h
    exact trodAll_mk0
  | t :: ts, vs, ds, ps, ht, h => by
    simp only [List.all_cons, Bool.and_eq_true, decide_eq_true_eq] at ht
    obtain ⟨v, vs', d, ds', p, q, rfl, rfl, rfl, h0, hr⟩ := trodAll_cons h
    refine trodAll_cons_mk (Below.trod hl ht.1.1 ht.1.2 h0 hb ?_) (trodAll_stays hl hb ts vs' ds' q (by simpa using ht.2) hr)
    obtain ⟨m, hm⟩ := h0
    exact DataW.trod_lt m _ _ _ hm
end Go.Proofs.YtigbfdloodfdgaaDoor
