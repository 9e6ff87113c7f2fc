/- What the listed variable gives (the table of shapes lies in its cells), how arguments are read, and how a law's walk becomes its row; no statement is proved in this text. -/
import Derived.Test.YtdhipmemcjajeaaDoorCpuSub
import Derived.Test.YtdhipmemcjajeaaDoorCards
import Derived.Test.YtdhipmemcjajeaaDoorTie
import Derived.LaidMore
import Derived.Stop.Joined
import Derived.SevenTiedAt
import Derived.ChangeOld
import Derived.ChangeSame
import Derived.ShutString
import Derived.Carry
import Derived.Deep.Slices
namespace Go.Proofs.YtdhipmemcjajeaaDoor
open Go.ChangeShapes Go.WideShapes Go.ChangeAt Go.RowKit

abbrev laidL {H : Type} : List (String × DataW H) := [("imago/code.shapes", Rows.laid_imago_code_shapes)]
theorem own : ownKnob Tryd.prog.godebug = none := by kernel_rfl
theorem laidOut : laidOutB Tryd.prog = true := by kernel_rfl
theorem gShapes : Tryd.prog.globalNamed "imago/code.shapes" = some 0 := by kernel_rfl
theorem tShapes : (Tryd.prog.globals[0]?).map (·.type) = some 64 := by kernel_rfl
theorem cells3 : Tryd.prog.cellsOf 3 = 1 := by kernel_rfl
theorem cells55 : Tryd.prog.cellsOf 63 = 2 := by kernel_rfl
theorem cells23 : Tryd.prog.cellsOf 38 = 4 := by kernel_rfl

theorem door_met (os : Os) (args : Array Value) : laidMetH Tryd.prog laidL ((World.doorLaid Tryd.prog 400 os).forCall (fun _ _ => 0) ⟨#[], args, []⟩).memory :=
  laidMetH_of_parts3 (fuel := 8) (laidMet_of_run' 8 (by kernel_rfl) (by kernel_rfl)) (by kernel_rfl) (by kernel_rfl)

theorem list2 {α : Type} : ∀ {l : List α}, l.length = 2 → ∃ a b, l = [a, b]
  | [a, b], _ => ⟨a, b, rfl⟩
theorem list4 {α : Type} : ∀ {l : List α}, l.length = 4 → ∃ a b c d, l = [a, b, c, d]
  | [a, b, c, d], _ => ⟨a, b, c, d, rfl⟩
theorem shape_read {H : Type} {enc : TypeId × Value → H} {w : World} {base : Nat} {spare : Nat → Bool} {held : Bool} {fuel : Nat} {cs : List Value} {x : DataW H × List MemPlace}
    (h : DataW.trod enc Tryd.prog w base spare held fuel 63 cs = some x) : ∃ r n : Int, cs = [i64 r, i64 n] ∧ x.1 = .agg [.lit (.int .i64 r), .lit (.int .i64 n)] := by
  obtain ⟨xs, n, _, hx, hl, hlen, hf⟩ := DataW.trod_struct Tryd.underlying63 h
  obtain ⟨c0, c1, rfl⟩ := list2 (hl.trans cells55)
  obtain ⟨x0, x1, rfl⟩ := list2 (show xs.length = 2 from hlen)
  have g0 : DataW.trod enc Tryd.prog w base spare held n 3 (([c0, c1].drop 0).take (Tryd.prog.cellsOf 3)) = some x0 := hf 0 _ rfl
  have g1 : DataW.trod enc Tryd.prog w base spare held n 3 (([c0, c1].drop 1).take (Tryd.prog.cellsOf 3)) = some x1 := hf 1 _ rfl
  rw [cells3] at g0 g1
  change DataW.trod enc Tryd.prog w base spare held n 3 [c0] = _ at g0
  change DataW.trod enc Tryd.prog w base spare held n 3 [c1] = _ at g1
  obtain ⟨n0, e0, f0, _⟩ := DataW.trod_int Tryd.underlying3 g0
  obtain ⟨n1, e1, f1, _⟩ := DataW.trod_int Tryd.underlying3 g1
  simp only [List.cons.injEq, and_true] at e0 e1
  subst e0 e1
  refine ⟨n0, n1, rfl, ?_⟩
  rw [hx]
  simp [f0, f1]
theorem inst_read {H : Type} {enc : TypeId × Value → H} {w : World} {base : Nat} {spare : Nat → Bool} {held : Bool} {fuel : Nat} {cs : List Value} {x : DataW H × List MemPlace}
    (h : DataW.trod enc Tryd.prog w base spare held fuel 38 cs = some x) : ∃ i : In, cs = [i64 i.op, i64 i.a, i64 i.b, i64 i.n] ∧ (Lit.int .i64 i.op).wf = true := by
  obtain ⟨xs, n, _, hx, hl, hlen, hf⟩ := DataW.trod_struct Tryd.underlying38 h
  obtain ⟨c0, c1, c2, c3, rfl⟩ := list4 (hl.trans cells23)
  obtain ⟨x0, x1, x2, x3, rfl⟩ := list4 (show xs.length = 4 from hlen)
  have g0 : DataW.trod enc Tryd.prog w base spare held n 3 (([c0, c1, c2, c3].drop 0).take (Tryd.prog.cellsOf 3)) = some x0 := hf 0 _ rfl
  have g1 : DataW.trod enc Tryd.prog w base spare held n 3 (([c0, c1, c2, c3].drop 1).take (Tryd.prog.cellsOf 3)) = some x1 := hf 1 _ rfl
  have g2 : DataW.trod enc Tryd.prog w base spare held n 3 (([c0, c1, c2, c3].drop 2).take (Tryd.prog.cellsOf 3)) = some x2 := hf 2 _ rfl
  have g3 : DataW.trod enc Tryd.prog w base spare held n 3 (([c0, c1, c2, c3].drop 3).take (Tryd.prog.cellsOf 3)) = some x3 := hf 3 _ rfl
  rw [cells3] at g0 g1 g2 g3
  change DataW.trod enc Tryd.prog w base spare held n 3 [c0] = _ at g0
  change DataW.trod enc Tryd.prog w base spare held n 3 [c1] = _ at g1
  change DataW.trod enc Tryd.prog w base spare held n 3 [c2] = _ at g2
  change DataW.trod enc Tryd.prog w base spare held n 3 [c3] = _ at g3
  obtain ⟨n0, e0, _, w0⟩ := DataW.trod_int Tryd.underlying3 g0
  obtain ⟨n1, e1, _, _⟩ := DataW.trod_int Tryd.underlying3 g1
  obtain ⟨n2, e2, _, _⟩ := DataW.trod_int Tryd.underlying3 g2
  obtain ⟨n3, e3, _, _⟩ := DataW.trod_int Tryd.underlying3 g3
  simp only [List.cons.injEq, and_true] at e0 e1 e2 e3
  subst e0 e1 e2 e3
  exact ⟨⟨n0, n1, n2, n3⟩, rfl, w0⟩
theorem inst_arg {H : Type} {enc : TypeId × Value → H} {W : World} {r : Reach} {b0 : Nat} {spare : Nat → Bool} {held : Bool} {v : Value} {d : DataW H} {ps : List MemPlace} (hv : Value.okWide Tryd.prog W r b0 38 v)
    (h : DataW.Trod enc Tryd.prog W 0 spare held 38 v d ps) : ∃ i : In, v = inV i := by
  obtain ⟨⟨l⟩, rfl, _⟩ := okWide_struct Tryd.underlying38 hv
  obtain ⟨fuel, hf⟩ := h
  obtain ⟨i, hk, _⟩ := inst_read hf
  refine ⟨i, ?_⟩
  have hl : l = [i64 i.op, i64 i.a, i64 i.b, i64 i.n] := hk
  rw [hl]

theorem cells22' : Tryd.prog.cellsOf 22 = 1 := by kernel_rfl
theorem cells23' : Tryd.prog.cellsOf 23 = 8 := by kernel_rfl
theorem cells25' : Tryd.prog.cellsOf 25 = 9 := by kernel_rfl
theorem nat_u16 {n : Int} (h : (Lit.int .u16 n).wf = true) : ∃ x : Nat, n = x ∧ x < 65536 := by
  have h2 : 0 ≤ n ∧ n < 65536 := by
    have hmin : IntKind.u16.min = 0 := by decide
    have hmax : IntKind.u16.max = 65535 := by decide
    simp [Lit.wf, hmin, hmax] at h
    omega
  exact ⟨n.toNat, by omega, by omega⟩
theorem list_of {P : Nat → Nat → Prop} : ∀ n, (∀ i, i < n → ∃ x : Nat, P i x) → ∃ C : List Nat, C.length = n ∧ ∀ i, i < n → P i (C.getD i 0)
  | 0, _ => ⟨[], rfl, fun i h => by omega⟩
  | n + 1, h => by
    obtain ⟨C, hl, hC⟩ := list_of n (fun i hi => h i (by omega))
    obtain ⟨x, hx⟩ := h n (by omega)
    refine ⟨C ++ [x], by simp [hl], fun i hi => ?_⟩
    by_cases e : i < n
    · rw [List.getD_eq_getElem?_getD, List.getElem?_append_left (by omega), ← List.getD_eq_getElem?_getD]
      exact hC i e
    · obtain rfl : i = n := by omega
      rw [List.getD_eq_getElem?_getD, List.getElem?_append_right (by omega), hl]
      simpa using hx
theorem cpu_read {H : Type} {enc : TypeId × Value → H} {w : World} {base : Nat} {spare : Nat → Bool} {held : Bool} {fuel : Nat} {cs : List Value} {x : DataW H × List MemPlace}
    (h : DataW.trod enc Tryd.prog w base spare held fuel 25 cs = some x) : ∃ C : List Nat, Rg C ∧ cs = cpC C := by
  obtain ⟨xs, n, _, hx, hl, hlen, hf⟩ := DataW.trod_struct Tryd.underlying25 h
  rw [cells25'] at hl
  obtain ⟨x0, x1, rfl⟩ := list2 (show xs.length = 2 from hlen)
  have g0 : DataW.trod enc Tryd.prog w base spare held n 23 ((cs.drop 0).take (Tryd.prog.cellsOf 23)) = some x0 := hf 0 _ rfl
  have g1 : DataW.trod enc Tryd.prog w base spare held n 22 ((cs.drop 8).take (Tryd.prog.cellsOf 22)) = some x1 := hf 1 _ rfl
  rw [cells22'] at g1
  rw [cells23'] at g0
  obtain ⟨ys, m1, rfl, hy1, hylen, hn3, hel⟩ := DataW.trod_array Tryd.underlying23 g0
  have key : ∀ i, i < 9 → ∃ y : Nat, cs[i]? = some (u16 y) ∧ y < 65536 := by
    intro i hi
    by_cases h8 : i < 8
    · have hi' := hel i h8
      rw [cells22'] at hi'
      obtain ⟨y, hy⟩ : ∃ y, ys[i]? = some y := ⟨_, List.getElem?_eq_getElem (by omega)⟩
      rw [hy] at hi'
      obtain ⟨k, e, _, wf⟩ := DataW.trod_int Tryd.underlying22 hi'
      obtain ⟨y, rfl, hy⟩ := nat_u16 wf
      refine ⟨y, ?_, hy⟩
      have e0 := congrArg (fun l : List Value => l[0]?) e
      simp only [List.getElem?_cons_zero] at e0
      rw [List.getElem?_take_of_lt (by omega), List.getElem?_drop, List.getElem?_take_of_lt (by omega), List.getElem?_drop] at e0
      simpa using e0
    · obtain rfl : i = 8 := by omega
      obtain ⟨k, e, _, wf⟩ := DataW.trod_int Tryd.underlying22 g1
      obtain ⟨y, rfl, hy⟩ := nat_u16 wf
      refine ⟨y, ?_, hy⟩
      have e0 := congrArg (fun l : List Value => l[0]?) e
      simp only [List.getElem?_cons_zero] at e0
      rw [List.getElem?_take_of_lt (by omega), List.getElem?_drop] at e0
      simpa using e0
  obtain ⟨C, hCl, hC⟩ := list_of (P := fun i y => cs[i]? = some (u16 y) ∧ y < 65536) 9 key
  refine ⟨C, ⟨hCl, fun y hy => ?_⟩, ?_⟩
  · obtain ⟨i, hi, rfl⟩ := List.mem_iff_getElem.1 hy
    have := (hC i (by omega)).2
    rw [List.getD_eq_getElem?_getD, List.getElem?_eq_getElem hi] at this
    exact this
  · apply List.ext_getElem?
    intro i
    by_cases hi : i < 9
    · rw [(hC i hi).1, cpC, List.getElem?_map, List.getElem?_eq_getElem (by omega : i < C.length)]
      rw [List.getD_eq_getElem?_getD, List.getElem?_eq_getElem (by omega : i < C.length)]
      rfl
    · rw [List.getElem?_eq_none (by omega), List.getElem?_eq_none (by rw [cpC_len]; omega)]
theorem cpu_arg {H : Type} {enc : TypeId × Value → H} {W : World} {r : Reach} {b0 : Nat} {spare : Nat → Bool} {held : Bool} {v : Value} {d : DataW H} {ps : List MemPlace} (hv : Value.okWide Tryd.prog W r b0 25 v)
    (h : DataW.Trod enc Tryd.prog W 0 spare held 25 v d ps) : ∃ C : List Nat, Rg C ∧ v = cpV C := by
  obtain ⟨⟨l⟩, rfl, _⟩ := okWide_struct Tryd.underlying25 hv
  obtain ⟨fuel, hf⟩ := h
  obtain ⟨C, hC, hk⟩ := cpu_read hf
  refine ⟨C, hC, ?_⟩
  have hl : l = cpC C := hk
  rw [hl]

/-- The condition gives the table. -/
theorem of_laid {W : World} (h : laidMetH Tryd.prog laidL W) : Tab W := by
  rw [MakeChecks.laidMetH_plain _ _ _ (by kernel_rfl)] at h
  obtain ⟨ps, ⟨g0, t0, cs0, f0, p0, q0, hg0, ht0, hv0, hd0, _, _⟩, _⟩ := h
  obtain rfl := Option.some.inj (gShapes.symm.trans hg0)
  obtain rfl := Option.some.inj (tShapes.symm.trans ht0)
  obtain ⟨xs, m1, rfl, hx1, hlen, hn3, hel⟩ := DataW.trod_array Tryd.underlying64 hd0
  simp only [Prod.mk.injEq] at hx1
  intro i hi
  have hi' := hel i (by omega)
  rw [cells55] at hi'
  obtain ⟨x, hx⟩ : ∃ x, xs[i]? = some x := ⟨_, List.getElem?_eq_getElem (by omega)⟩
  rw [hx] at hi'
  obtain ⟨r, n, e1, e2⟩ := shape_read hi'
  have hc := fun j => World.var?_cell hg0 hv0 j
  have hcs : ∀ j, j < 2 → cs0[i * 2 + j]? = [i64 r, i64 n][j]? := by
    intro j hj
    rw [← e1, List.getElem?_take_of_lt hj, List.getElem?_drop]
    simp
  have hk : (xs.map (·.1))[i]? = some (.agg [.lit (.int .i64 r), .lit (.int .i64 n)]) := by
    rw [List.getElem?_map, hx]
    simp [e2]
  have hd := hx1.1
  unfold Rows.laid_imago_code_shapes at hd
  simp only [DataW.agg.injEq] at hd
  rw [← hd] at hk
  have h0 := hcs 0 (by omega)
  have h1 := hcs 1 (by omega)
  rw [Nat.add_zero] at h0
  rw [hc, hc, h0, h1]
  clear hcs h0 h1 hc e1 e2 hx hi' hd hx1 hel
  rcases i with _|_|_|_|_|_|_|_|_|_|_|_|_|_|_|_|_|_|_|_|_|i
  all_goals first
    | omega
    | (simp at hk; obtain ⟨rfl, rfl⟩ := hk; exact ⟨rfl, rfl⟩)

/-- Arguments read again. -/
theorem trodAll_stays {H : Type} {enc : TypeId × Value → H} {P : Program} (hl : laidOutB P = true) {W W' : World} (hb : Below W.heap.size W W') : ∀ (ts : List TypeId) (vs : List Value) (ds : List (DataW H)) (ps : List MemPlace),
    (ts.all fun t => P.readableRec t && decide (t < P.types.size)) = true → DataW.TrodAll enc P W 0 (fun _ => true) true ts vs ds ps → DataW.TrodAll enc P W' 0 (fun b => decide (b < W.heap.size)) true ts vs ds ps
  | [], vs, ds, ps, _, h => by
    obtain ⟨rfl, rfl, rfl⟩ := trodAll_nil h
    exact trodAll_mk0
  | t :: ts, vs, ds, ps, ht, h => by
    simp only [List.all_cons, Bool.and_eq_true, decide_eq_true_eq] at ht
    obtain ⟨v, vs', d, ds', p, q, rfl, rfl, rfl, h0, hr⟩ := trodAll_cons h
    refine trodAll_cons_mk (Below.trod hl ht.1.1 ht.1.2 h0 hb ?_) (trodAll_stays hl hb ts vs' ds' q (by simpa using ht.2) hr)
    obtain ⟨m, hm⟩ := h0
    exact DataW.trod_lt m _ _ _ hm
end Go.Proofs.YtdhipmemcjajeaaDoor
