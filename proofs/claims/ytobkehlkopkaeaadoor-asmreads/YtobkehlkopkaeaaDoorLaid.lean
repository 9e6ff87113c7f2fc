/- What the listed variables give (the tables of shapes and forms, the powers of ten), what the world's shape gives, how arguments are read; no statement is proved in this text. -/
import Derived.Test.YtobkehlkopkaeaaDoorForms
import Derived.Test.YtobkehlkopkaeaaDoorCards
import Derived.Test.YtobkehlkopkaeaaDoorTie
import Derived.LaidMore
import Derived.Stop.Joined
import Derived.SevenTiedAt
import Derived.ChangeOld
import Derived.ChangeSame
import Derived.ShutString
import Derived.Carry
import Derived.Deep.Slices
import Derived.Shelf.Vars
import Derived.HandedShaped
import Derived.Lay
namespace Go.Proofs.YtobkehlkopkaeaaDoor
open Go.ChangeShapes Go.WideShapes Go.ChangeAt Go.RowKit
set_option maxRecDepth 100000

abbrev laidL : List (String × DataW Unit) := [("math/bits.deBruijn32tab", Rows.laid_math_bits_deBruijn32tab), ("math/bits.deBruijn64tab", Rows.laid_math_bits_deBruijn64tab), ("internal/strconv.uint64pow10", Rows.laid_internal_strconv_uint64pow10), ("unicode/utf8.acceptRanges", Rows.laid_unicode_utf8_acceptRanges), ("imago/code.shapes", Rows.laid_imago_code_shapes), ("imago/asm.forms", Rows.laid_imago_asm_forms), ("unicode/utf8.first", Rows.laid_unicode_utf8_first)]
theorem own : ownKnob Tryd.prog.godebug = none := by kernel_rfl
theorem laidOut : laidOutB Tryd.prog = true := by kernel_rfl
theorem gForms : Tryd.prog.globalNamed "imago/asm.forms" = some 0 := by kernel_rfl
theorem gShapes : Tryd.prog.globalNamed "imago/code.shapes" = some 1 := by kernel_rfl
theorem gPow : Tryd.prog.globalNamed "internal/strconv.uint64pow10" = some 3 := by kernel_rfl
theorem tForms : (Tryd.prog.globals[0]?).map (·.type) = some 59 := by kernel_rfl
theorem tShapes : (Tryd.prog.globals[1]?).map (·.type) = some 100 := by kernel_rfl
theorem tPow : (Tryd.prog.globals[3]?).map (·.type) = some 133 := by kernel_rfl
theorem cells3 : Tryd.prog.cellsOf 3 = 1 := by kernel_rfl
theorem cells4 : Tryd.prog.cellsOf 4 = 1 := by kernel_rfl
theorem cells9 : Tryd.prog.cellsOf 9 = 1 := by kernel_rfl
theorem cells99 : Tryd.prog.cellsOf 99 = 2 := by kernel_rfl
theorem cells27 : Tryd.prog.cellsOf 27 = 4 := by kernel_rfl
theorem cells58 : Tryd.prog.cellsOf 58 = 4 := by kernel_rfl
theorem max_some {w : World} (h : w.ShapedOpen Tryd.prog) : ∃ m, w.cell? ⟨2, 0, none⟩ = some (.int .i64 m) :=
  cell_of_shapedOpen_int (t := 3) (zero := #[.int .i64 0]) h (of_decide_eq_true (by kernel_rfl)) (by kernel_rfl) rfl (by kernel_rfl) (by kernel_rfl) Tryd.underlying3

theorem door_met (os : Os) (args : Array Value) : laidMetH Tryd.prog laidL ((World.laidAll Tryd.prog os laidL).forCall (fun _ _ => 0) ⟨#[], args, []⟩).memory := by
  rw [MakeChecks.laidMetH_plain _ _ _ (by kernel_rfl)]
  exact laidMet_laidAll _ (by kernel_rfl) (by kernel_rfl)

theorem list2 {α : Type} : ∀ {l : List α}, l.length = 2 → ∃ a b, l = [a, b]
  | [a, b], _ => ⟨a, b, rfl⟩
theorem list4 {α : Type} : ∀ {l : List α}, l.length = 4 → ∃ a b c d, l = [a, b, c, d]
  | [a, b, c, d], _ => ⟨a, b, c, d, rfl⟩
theorem shape_read {H : Type} {enc : TypeId × Value → H} {w : World} {base : Nat} {spare : Nat → Bool} {held : Bool} {fuel : Nat} {cs : List Value} {x : DataW H × List MemPlace}
    (h : DataW.trod enc Tryd.prog w base spare held fuel 99 cs = some x) : ∃ r n : Int, cs = [i64 r, i64 n] ∧ x.1 = .agg [.lit (.int .i64 r), .lit (.int .i64 n)] := by
  obtain ⟨xs, n, _, hx, hl, hlen, hf⟩ := DataW.trod_struct Tryd.underlying99 h
  obtain ⟨c0, c1, rfl⟩ := list2 (hl.trans cells99)
  obtain ⟨x0, x1, rfl⟩ := list2 (show xs.length = 2 from hlen)
  have g0 : DataW.trod enc Tryd.prog w base spare held n 3 (([c0, c1].drop 0).take (Tryd.prog.cellsOf 3)) = some x0 := hf 0 _ rfl
  have g1 : DataW.trod enc Tryd.prog w base spare held n 3 (([c0, c1].drop 1).take (Tryd.prog.cellsOf 3)) = some x1 := hf 1 _ rfl
  rw [cells3] at g0 g1
  change DataW.trod enc Tryd.prog w base spare held n 3 [c0] = _ at g0
  change DataW.trod enc Tryd.prog w base spare held n 3 [c1] = _ at g1
  obtain ⟨n0, e0, f0, _⟩ := DataW.trod_int Tryd.underlying3 g0
  obtain ⟨n1, e1, f1, _⟩ := DataW.trod_int Tryd.underlying3 g1
  simp only [List.cons.injEq, and_true] at e0 e1
  subst e0 e1
  refine ⟨n0, n1, rfl, ?_⟩
  rw [hx]
  simp [f0, f1]
theorem inst_read {H : Type} {enc : TypeId × Value → H} {w : World} {base : Nat} {spare : Nat → Bool} {held : Bool} {fuel : Nat} {cs : List Value} {x : DataW H × List MemPlace}
    (h : DataW.trod enc Tryd.prog w base spare held fuel 27 cs = some x) : ∃ i : In, cs = [i64 i.op, i64 i.a, i64 i.b, i64 i.n] ∧ (Lit.int .i64 i.op).wf = true := by
  obtain ⟨xs, n, _, hx, hl, hlen, hf⟩ := DataW.trod_struct Tryd.underlying27 h
  obtain ⟨c0, c1, c2, c3, rfl⟩ := list4 (hl.trans cells27)
  obtain ⟨x0, x1, x2, x3, rfl⟩ := list4 (show xs.length = 4 from hlen)
  have g0 : DataW.trod enc Tryd.prog w base spare held n 3 (([c0, c1, c2, c3].drop 0).take (Tryd.prog.cellsOf 3)) = some x0 := hf 0 _ rfl
  have g1 : DataW.trod enc Tryd.prog w base spare held n 3 (([c0, c1, c2, c3].drop 1).take (Tryd.prog.cellsOf 3)) = some x1 := hf 1 _ rfl
  have g2 : DataW.trod enc Tryd.prog w base spare held n 3 (([c0, c1, c2, c3].drop 2).take (Tryd.prog.cellsOf 3)) = some x2 := hf 2 _ rfl
  have g3 : DataW.trod enc Tryd.prog w base spare held n 3 (([c0, c1, c2, c3].drop 3).take (Tryd.prog.cellsOf 3)) = some x3 := hf 3 _ rfl
  rw [cells3] at g0 g1 g2 g3
  change DataW.trod enc Tryd.prog w base spare held n 3 [c0] = _ at g0
  change DataW.trod enc Tryd.prog w base spare held n 3 [c1] = _ at g1
  change DataW.trod enc Tryd.prog w base spare held n 3 [c2] = _ at g2
  change DataW.trod enc Tryd.prog w base spare held n 3 [c3] = _ at g3
  obtain ⟨n0, e0, _, w0⟩ := DataW.trod_int Tryd.underlying3 g0
  obtain ⟨n1, e1, _, _⟩ := DataW.trod_int Tryd.underlying3 g1
  obtain ⟨n2, e2, _, _⟩ := DataW.trod_int Tryd.underlying3 g2
  obtain ⟨n3, e3, _, _⟩ := DataW.trod_int Tryd.underlying3 g3
  simp only [List.cons.injEq, and_true] at e0 e1 e2 e3
  subst e0 e1 e2 e3
  exact ⟨⟨n0, n1, n2, n3⟩, rfl, w0⟩
theorem inst_arg {H : Type} {enc : TypeId × Value → H} {W : World} {r : Reach} {b0 : Nat} {spare : Nat → Bool} {held : Bool} {v : Value} {d : DataW H} {ps : List MemPlace} (hv : Value.okWide Tryd.prog W r b0 27 v)
    (h : DataW.Trod enc Tryd.prog W 0 spare held 27 v d ps) : ∃ i : In, v = inV i := by
  obtain ⟨⟨l⟩, rfl, _⟩ := okWide_struct Tryd.underlying27 hv
  obtain ⟨fuel, hf⟩ := h
  obtain ⟨i, hk, _⟩ := inst_read hf
  refine ⟨i, ?_⟩
  have hl : l = [i64 i.op, i64 i.a, i64 i.b, i64 i.n] := hk
  rw [hl]

theorem form_read {H : Type} {enc : TypeId × Value → H} {w : World} {base : Nat} {spare : Nat → Bool} {held : Bool} {fuel : Nat} {cs : List Value} {x : DataW H × List MemPlace}
    (h : DataW.trod enc Tryd.prog w base spare held fuel 58 cs = some x) : ∃ (s : ByteArray) (r n : Int) (b : Bool), cs = [.string s, i64 r, i64 n, .bool b] ∧ x.1 = .agg [.lit (.string s.data.toList), .lit (.int .i64 r), .lit (.int .i64 n), .lit (.bool b)] := by
  obtain ⟨xs, n, _, hx, hl, hlen, hf⟩ := DataW.trod_struct Tryd.underlying58 h
  obtain ⟨c0, c1, c2, c3, rfl⟩ := list4 (hl.trans cells58)
  obtain ⟨x0, x1, x2, x3, rfl⟩ := list4 (show xs.length = 4 from hlen)
  have g0 : DataW.trod enc Tryd.prog w base spare held n 9 (([c0, c1, c2, c3].drop 0).take (Tryd.prog.cellsOf 9)) = some x0 := hf 0 _ rfl
  have g1 : DataW.trod enc Tryd.prog w base spare held n 3 (([c0, c1, c2, c3].drop 1).take (Tryd.prog.cellsOf 3)) = some x1 := hf 1 _ rfl
  have g2 : DataW.trod enc Tryd.prog w base spare held n 3 (([c0, c1, c2, c3].drop 2).take (Tryd.prog.cellsOf 3)) = some x2 := hf 2 _ rfl
  have g3 : DataW.trod enc Tryd.prog w base spare held n 4 (([c0, c1, c2, c3].drop 3).take (Tryd.prog.cellsOf 4)) = some x3 := hf 3 _ rfl
  rw [cells9] at g0
  rw [cells3] at g1 g2
  rw [cells4] at g3
  change DataW.trod enc Tryd.prog w base spare held n 9 [c0] = _ at g0
  change DataW.trod enc Tryd.prog w base spare held n 3 [c1] = _ at g1
  change DataW.trod enc Tryd.prog w base spare held n 3 [c2] = _ at g2
  change DataW.trod enc Tryd.prog w base spare held n 4 [c3] = _ at g3
  obtain ⟨n0, e0, f0, _⟩ := DataW.trod_string Tryd.underlying9 g0
  obtain ⟨n1, e1, f1, _⟩ := DataW.trod_int Tryd.underlying3 g1
  obtain ⟨n2, e2, f2, _⟩ := DataW.trod_int Tryd.underlying3 g2
  obtain ⟨n3, e3, f3⟩ := DataW.trod_bool Tryd.underlying4 g3
  simp only [List.cons.injEq, and_true] at e0 e1 e2 e3
  subst e0 e1 e2 e3
  refine ⟨n0, n1, n2, n3, rfl, ?_⟩
  rw [hx]
  simp [f0, f1, f2, f3]
theorem ba_of (s : ByteArray) (l : Bs) (h : s.data.toList = l) : s = ⟨l.toArray⟩ := by
  apply ByteArray.ext
  rw [← h]
/-- The condition gives the tables. -/
theorem of_laid {W : World} (h : laidMetH Tryd.prog laidL W) (hsh : W.ShapedOpen Tryd.prog) : Env W := by
  rw [MakeChecks.laidMetH_plain _ _ _ (by kernel_rfl)] at h
  obtain ⟨ps, ⟨_, _, _, _, _, _, _, _, _, _, ⟨_, _, _, _, _, _, _, _, _, _, ⟨gp, tp, csp, fp, pp, qp, hgp, htp, hvp, hdp, ⟨_, _, _, _, _, _, _, _, _, _, ⟨g0, t0, cs0, f0, p0, q0, hg0, ht0, hv0, hd0, ⟨g1, t1, cs1, f1, p1, q1, hg1, ht1, hv1, hd1, _⟩, _⟩, _⟩, _⟩, _⟩, _⟩, _⟩ := h
  refine ⟨?_, max_some hsh, ?_, ?_⟩
  · obtain rfl := Option.some.inj (gShapes.symm.trans hg0)
    obtain rfl := Option.some.inj (tShapes.symm.trans ht0)
    obtain ⟨xs, m1, rfl, hx1, hlen, hn3, hel⟩ := DataW.trod_array Tryd.underlying100 hd0
    simp only [Prod.mk.injEq] at hx1
    intro i hi
    have hi' := hel i (by omega)
    rw [cells99] at hi'
    obtain ⟨x, hx⟩ : ∃ x, xs[i]? = some x := ⟨_, List.getElem?_eq_getElem (by omega)⟩
    rw [hx] at hi'
    obtain ⟨r, n, e1, e2⟩ := shape_read hi'
    have hc := fun j => World.var?_cell hg0 hv0 j
    have hcs : ∀ j, j < 2 → cs0[i * 2 + j]? = [i64 r, i64 n][j]? := by
      intro j hj
      rw [← e1, List.getElem?_take_of_lt hj, List.getElem?_drop]
      simp
    have hk : (xs.map (·.1))[i]? = some (.agg [.lit (.int .i64 r), .lit (.int .i64 n)]) := by
      rw [List.getElem?_map, hx]
      simp [e2]
    have hd := hx1.1
    unfold Rows.laid_imago_code_shapes at hd
    simp only [DataW.agg.injEq] at hd
    rw [← hd] at hk
    have h0 := hcs 0 (by omega)
    have h1 := hcs 1 (by omega)
    rw [Nat.add_zero] at h0
    rw [hc, hc, h0, h1]
    clear hcs h0 h1 hc e1 e2 hx hi' hd hx1 hel
    rcases i with _|_|_|_|_|_|_|_|_|_|_|_|_|_|_|_|_|_|_|_|_|i
    all_goals first
      | omega
      | (simp at hk; obtain ⟨rfl, rfl⟩ := hk; exact ⟨rfl, rfl⟩)
  · obtain rfl := Option.some.inj (gForms.symm.trans hg1)
    obtain rfl := Option.some.inj (tForms.symm.trans ht1)
    obtain ⟨xs, m1, rfl, hx1, hlen, hn3, hel⟩ := DataW.trod_array Tryd.underlying59 hd1
    simp only [Prod.mk.injEq] at hx1
    have hc := fun j => World.var?_cell hg1 hv1 j
    have each : ∀ i, i < 21 → cs1[i * 4]? = some (str (nmOf i)) ∧ cs1[i * 4 + 1]? = some (i64 (rg i : Nat)) ∧ cs1[i * 4 + 2]? = some (i64 (fNums i : Nat)) ∧ cs1[i * 4 + 3]? = some (.bool (fLab i)) := by
      intro i hi
      have hi' := hel i (by omega)
      rw [cells58] at hi'
      obtain ⟨x, hx⟩ : ∃ x, xs[i]? = some x := ⟨_, List.getElem?_eq_getElem (by omega)⟩
      rw [hx] at hi'
      obtain ⟨s, r, n, b, e1, e2⟩ := form_read hi'
      have hcs : ∀ j, j < 4 → cs1[i * 4 + j]? = [.string s, i64 r, i64 n, .bool b][j]? := by
        intro j hj
        rw [← e1, List.getElem?_take_of_lt hj, List.getElem?_drop]
        simp
      have hk : (xs.map (·.1))[i]? = some (.agg [.lit (.string s.data.toList), .lit (.int .i64 r), .lit (.int .i64 n), .lit (.bool b)]) := by
        rw [List.getElem?_map, hx]
        simp [e2]
      have hd := hx1.1
      unfold Rows.laid_imago_asm_forms at hd
      simp only [DataW.agg.injEq] at hd
      rw [← hd] at hk
      have h0 := hcs 0 (by omega)
      rw [Nat.add_zero] at h0
      rw [h0, hcs 1 (by omega), hcs 2 (by omega), hcs 3 (by omega)]
      clear hcs h0 hc e1 e2 hx hi' hd hx1 hel
      rcases i with _|_|_|_|_|_|_|_|_|_|_|_|_|_|_|_|_|_|_|_|_|i
      all_goals first
        | omega
        | (simp only [List.getElem?_cons_zero, List.getElem?_cons_succ, Option.some.injEq, DataW.agg.injEq, List.cons.injEq, DataW.lit.injEq, Lit.string.injEq, Lit.int.injEq, Lit.bool.injEq, and_true, true_and] at hk
           obtain ⟨hs, rfl, rfl, rfl⟩ := hk
           obtain rfl := ba_of s _ hs.symm
           exact ⟨rfl, rfl, rfl, rfl⟩)
    intro j v hv
    have hj : j < 84 := (List.getElem?_eq_some_iff.1 hv).1
    rw [Nat.zero_add, hc]
    obtain ⟨a0, a1, a2, a3⟩ := each (j / 4) (by omega)
    obtain ⟨b0, b1, b2, b3⟩ := fcells_at (j / 4) (by omega)
    rcases (show j = j / 4 * 4 ∨ j = j / 4 * 4 + 1 ∨ j = j / 4 * 4 + 2 ∨ j = j / 4 * 4 + 3 by omega) with e | e | e | e
    · rw [e] at hv ⊢; rw [a0, ← b0]; exact hv
    · rw [e] at hv ⊢; rw [a1, ← b1]; exact hv
    · rw [e] at hv ⊢; rw [a2, ← b2]; exact hv
    · rw [e] at hv ⊢; rw [a3, ← b3]; exact hv
  · obtain rfl := Option.some.inj (gPow.symm.trans hgp)
    obtain rfl := Option.some.inj (tPow.symm.trans htp)
    have e : (Rows.laid_internal_strconv_uint64pow10 : DataW Unit) = Lib.tabData .u64 Lib.pow10Tab := by kernel_rfl
    rw [e] at hdp
    unfold Lib.TabIs
    rw [hvp, ← Lib.cells_of_tab (n := 20) (e := 123) (by kernel_rfl) (by kernel_rfl) (by kernel_rfl) (by kernel_rfl) hdp]

/-- The wrap that hands on what is listed and the world's shape both. -/
theorem ret_laid {H : Type} {enc : TypeId × Value → H} {os : Os} {f : FuncId} {fn : Func} {s : ChangeSpec} (started : os.Started) (noInit : Tryd.checked.prog.inits.idxOf? f = none) (hfn : Tryd.checked.prog.funcs[f]? = some fn)
    (witness : ∃ (w : World) (tape : Tape) (i : Input), w.os = os ∧ (w.forCall tape i).Shaped Tryd.checked.prog ∧ i.vars = [] ∧ Input.okWide Tryd.checked.prog (w.forCall tape i) .any w.heap.size f i ∧
      ((s.pre enc Tryd.checked.prog fn [] false (w.forCall tape i).memory i.args ∧ laidMetH Tryd.prog laidL (w.forCall tape i).memory) ∧ sizedMet enc Tryd.checked.prog fn (OpenSpec.ofChange s) false (w.forCall tape i).memory i.args) ∧ Assume.holds {} Tryd.checked.prog (lone (Frame.enter Tryd.checked.prog f i.args .normal) [] (w.forCall tape i)))
    (contract : ∀ (W : World) (base : Nat) (args : Array Value) (ds gs : List (DataW H)) (before : List MemPlace),
      (∀ (j : Nat) t v, fn.params[j]? = some t → args[j]? = some v → Value.okWide Tryd.checked.prog W .any base t v) →
      DataW.Whole enc Tryd.checked.prog fn.params.toList s.vars false W args.toList ds gs before → Env W →
      Calls Tryd.checked.prog f args W fun e W' => ∃ v, e = .returned v ∧ s.post enc Tryd.checked.prog fn false true false false W args v W') :
    ReturnsInHanded {} Tryd.checked os f .any (fun w args => (s.pre enc Tryd.prog fn [] false w args ∧ laidMetH Tryd.prog laidL w) ∧ sizedMet enc Tryd.prog fn (OpenSpec.ofChange s) false w args) (s.post enc Tryd.prog fn false true false false) := by
  refine returnsInHanded_of_calls own started noInit witness ?_
  intro w tape i _ hsh _ hok hpre _
  obtain ⟨_, _, _, fn', hfn', _, _, _, _, hval⟩ := hok
  obtain rfl : fn' = fn := Option.some.inj (hfn'.symm.trans hfn)
  obtain ⟨⟨⟨ds, gs, before, hw, _⟩, hx⟩, _⟩ := hpre
  have hw' := DataW.Whole.of_heap (w' := w.forCall tape i) (by rfl) hw
  have hx' : laidMetH Tryd.prog laidL (w.forCall tape i) := hx.of_heap (by rfl)
  refine (contract (w.forCall tape i) w.heap.size i.args ds gs before hval hw' (of_laid hx' hsh)).mono fun e W' ⟨v, he, hp⟩ => ?_
  subst he
  exact ChangeSpec.post_blind hp

/-- Arguments read again. -/
theorem trodAll_stays {H : Type} {enc : TypeId × Value → H} {P : Program} (hl : laidOutB P = true) {W W' : World} (hb : Below W.heap.size W W') : ∀ (ts : List TypeId) (vs : List Value) (ds : List (DataW H)) (ps : List MemPlace),
    (ts.all fun t => P.readableRec t && decide (t < P.types.size)) = true → DataW.TrodAll enc P W 0 (fun _ => true) true ts vs ds ps → DataW.TrodAll enc P W' 0 (fun b => decide (b < W.heap.size)) true ts vs ds ps
  | [], vs, ds, ps, _, h => by
    obtain ⟨rfl, rfl, rfl⟩ := trodAll_nil h
    exact trodAll_mk0
  | t :: ts, vs, ds, ps, ht, h => by
    simp only [List.all_cons, Bool.and_eq_true, decide_eq_true_eq] at ht
    obtain ⟨v, vs', d, ds', p, q, rfl, rfl, rfl, h0, hr⟩ := trodAll_cons h
    refine trodAll_cons_mk (Below.trod hl ht.1.1 ht.1.2 h0 hb ?_) (trodAll_stays hl hb ts vs' ds' q (by simpa using ht.2) hr)
    obtain ⟨m, hm⟩ := h0
    exact DataW.trod_lt m _ _ _ hm
end Go.Proofs.YtobkehlkopkaeaaDoor
