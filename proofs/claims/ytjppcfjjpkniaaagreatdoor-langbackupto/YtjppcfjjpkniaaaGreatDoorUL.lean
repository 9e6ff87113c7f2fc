/- Texts Laid in one; no statement is proved in this text. -/
import Derived.Test.YtjppcfjjpkniaaaGreatDoorUE
import Derived.Test.YtjppcfjjpkniaaaGreatDoorCards
import Derived.Test.YtjppcfjjpkniaaaGreatDoorTie
import Derived.LaidMore
import Derived.Stop.Joined
import Derived.SevenTiedAt
import Derived.ChangeOld
import Derived.ChangeSame
import Derived.ShutString
import Derived.Carry
import Derived.Deep.Slices
import Derived.Shelf.Vars
import Derived.HandedShaped
import Derived.Lay
namespace Go.Proofs.YtjppcfjjpkniaaaGreatDoor
open Go.ChangeShapes Go.WideShapes Go.ChangeAt Go.RowKit
set_option maxRecDepth 100000

abbrev laidL : List (String × DataW Unit) := [("math/bits.deBruijn32tab", Rows.laid_math_bits_deBruijn32tab), ("math/bits.deBruijn64tab", Rows.laid_math_bits_deBruijn64tab), ("internal/strconv.uint64pow10", Rows.laid_internal_strconv_uint64pow10), ("unicode/utf8.acceptRanges", Rows.laid_unicode_utf8_acceptRanges), ("strconv.ErrRange", Rows.laid_strconv_ErrRange), ("strconv.ErrSyntax", Rows.laid_strconv_ErrSyntax), ("imago/lang.forms", Rows.laid_imago_lang_forms), ("unicode/utf8.first", Rows.laid_unicode_utf8_first)]
theorem gPow : Tryz.prog.globalNamed "internal/strconv.uint64pow10" = some 6 := by kernel_rfl
theorem tPow : (Tryz.prog.globals[6]?).map (·.type) = some 208 := by kernel_rfl
theorem gForms : Tryz.prog.globalNamed "imago/lang.forms" = some 0 := by kernel_rfl
theorem tForms : (Tryz.prog.globals[0]?).map (·.type) = some 113 := by kernel_rfl
theorem gSyn : Tryz.prog.globalNamed "strconv.ErrSyntax" = some 4 := by kernel_rfl
theorem tSyn : (Tryz.prog.globals[4]?).map (·.type) = some 97 := by kernel_rfl
theorem gRan : Tryz.prog.globalNamed "strconv.ErrRange" = some 5 := by kernel_rfl
theorem tRan : (Tryz.prog.globals[5]?).map (·.type) = some 97 := by kernel_rfl
theorem cells112 : Tryz.prog.cellsOf 112 = 2 := by kernel_rfl
theorem cells113 : Tryz.prog.cellsOf 113 = 20 := by kernel_rfl
theorem cells3 : Tryz.prog.cellsOf 3 = 1 := by kernel_rfl
theorem cells9 : Tryz.prog.cellsOf 9 = 1 := by kernel_rfl
theorem max_some {w : World} (h : w.ShapedOpen Tryz.prog) : ∃ m, w.cell? ⟨1, 0, none⟩ = some (.int .i64 m) :=
  cell_of_shapedOpen_int (t := 3) (zero := #[.int .i64 0]) h (of_decide_eq_true (by kernel_rfl)) (by kernel_rfl) rfl (by kernel_rfl) (by kernel_rfl) Tryz.underlying3
theorem door_met (os : Os) (args : Array Value) : laidMetH Tryz.prog laidL ((World.laidAll Tryz.prog os laidL).forCall (fun _ _ => 0) ⟨#[], args, []⟩).memory := by
  rw [MakeChecks.laidMetH_plain _ _ _ (by kernel_rfl)]
  exact laidMet_laidAll _ (by kernel_rfl) (by kernel_rfl)
theorem list2 {α : Type} : ∀ {l : List α}, l.length = 2 → ∃ a b, l = [a, b]
  | [a, b], _ => ⟨a, b, rfl⟩
theorem form_read {H : Type} {enc : TypeId × Value → H} {w : World} {base : Nat} {spare : Nat → Bool} {held : Bool} {fuel : Nat} {cs : List Value} {x : DataW H × List MemPlace}
    (h : DataW.trod enc Tryz.prog w base spare held fuel 112 cs = some x) : ∃ (s : ByteArray) (n : Int), cs = [.string s, i64 n] ∧ x.1 = .agg [.lit (.string s.data.toList), .lit (.int .i64 n)] := by
  obtain ⟨xs, n, _, hx, hl, hlen, hf⟩ := DataW.trod_struct Tryz.underlying112 h
  obtain ⟨c0, c1, rfl⟩ := list2 (hl.trans cells112)
  obtain ⟨x0, x1, rfl⟩ := list2 (show xs.length = 2 from hlen)
  have g0 : DataW.trod enc Tryz.prog w base spare held n 9 (([c0, c1].drop 0).take (Tryz.prog.cellsOf 9)) = some x0 := hf 0 _ rfl
  have g1 : DataW.trod enc Tryz.prog w base spare held n 3 (([c0, c1].drop 1).take (Tryz.prog.cellsOf 3)) = some x1 := hf 1 _ rfl
  rw [cells9] at g0
  rw [cells3] at g1
  change DataW.trod enc Tryz.prog w base spare held n 9 [c0] = _ at g0
  change DataW.trod enc Tryz.prog w base spare held n 3 [c1] = _ at g1
  obtain ⟨n0, e0, f0, _⟩ := DataW.trod_string Tryz.underlying9 g0
  obtain ⟨n1, e1, f1, _⟩ := DataW.trod_int Tryz.underlying3 g1
  simp only [List.cons.injEq, and_true] at e0 e1
  subst e0 e1
  refine ⟨n0, n1, rfl, ?_⟩
  rw [hx]
  simp [f0, f1]
theorem iface_read {H : Type} {enc : TypeId × Value → H} {w : World} {base : Nat} {spare : Nat → Bool} {held : Bool} {fuel : Nat} {cs : List Value} {name : String} {d : DataW H} {ps : List MemPlace}
    (h : DataW.trod enc Tryz.prog w base spare held fuel 97 cs = some (.iface name d, ps)) : ∃ u v, cs = [.iface u v] := by
  cases fuel with
  | zero => simp [DataW.trod] at h
  | succ n =>
    unfold DataW.trod at h
    rw [Tryz.underlying97] at h
    split at h
    all_goals first
      | (rename_i heq; cases heq; exact ⟨_, _, rfl⟩)
      | (rename_i u v heq _; exact ⟨u, v, rfl⟩)
      | simp_all
theorem ba_of (s : ByteArray) (l : Bs) (h : s.data.toList = l) : s = ⟨l.toArray⟩ := by
  apply ByteArray.ext
  rw [← h]
/-- The condition gives the tables. -/
theorem of_laid {W : World} (h : laidMetH Tryz.prog laidL W) (hsh : W.ShapedOpen Tryz.prog) : Env W := by
  rw [MakeChecks.laidMetH_plain _ _ _ (by kernel_rfl)] at h
  obtain ⟨ps, ⟨_, _, _, _, _, _, _, _, _, _, ⟨_, _, _, _, _, _, _, _, _, _, ⟨gp, tp, csp, fp, pp, qp, hgp, htp, hvp, hdp, ⟨_, _, _, _, _, _, _, _, _, _, ⟨g0, t0, cs0, f0, p0, q0, hg0, ht0, hv0, hd0, ⟨g1, t1, cs1, f1, p1, q1, hg1, ht1, hv1, hd1, ⟨g2, t2, cs2, f2, p2, q2, hg2, ht2, hv2, hd2, _⟩, _⟩, _⟩, _⟩, _⟩, _⟩, _⟩, _⟩ := h
  refine ⟨?_, max_some hsh, ?_, ?_, ?_⟩
  · obtain rfl := Option.some.inj (gPow.symm.trans hgp)
    obtain rfl := Option.some.inj (tPow.symm.trans htp)
    have e : (Rows.laid_internal_strconv_uint64pow10 : DataW Unit) = Lib.tabData .u64 Lib.pow10Tab := by kernel_rfl
    rw [e] at hdp
    unfold Pw Lib.TabIs
    rw [hvp, ← Lib.cells_of_tab (n := 20) (e := 151) (by kernel_rfl) (by kernel_rfl) (by kernel_rfl) (by kernel_rfl) hdp]
  · obtain rfl := Option.some.inj (gForms.symm.trans hg2)
    obtain rfl := Option.some.inj (tForms.symm.trans ht2)
    obtain ⟨xs, m1, rfl, hx1, hlen, hn3, hel⟩ := DataW.trod_array Tryz.underlying113 hd2
    simp only [Prod.mk.injEq] at hx1
    have each : ∀ i, i < 10 → cs2[i * 2]? = formsC[i * 2]? ∧ cs2[i * 2 + 1]? = formsC[i * 2 + 1]? := by
      intro i hi
      have hi' := hel i (by omega)
      rw [cells112] at hi'
      obtain ⟨x, hx⟩ : ∃ x, xs[i]? = some x := ⟨_, List.getElem?_eq_getElem (by omega)⟩
      rw [hx] at hi'
      obtain ⟨s, n, e1, e2⟩ := form_read hi'
      have hcs : ∀ j, j < 2 → cs2[i * 2 + j]? = [.string s, i64 n][j]? := by
        intro j hj
        rw [← e1, List.getElem?_take_of_lt hj, List.getElem?_drop]
        simp
      have hk : (xs.map (·.1))[i]? = some (.agg [.lit (.string s.data.toList), .lit (.int .i64 n)]) := by
        rw [List.getElem?_map, hx]
        simp [e2]
      have hd := hx1.1
      unfold Rows.laid_imago_lang_forms at hd
      simp only [DataW.agg.injEq] at hd
      rw [← hd] at hk
      have h0 := hcs 0 (by omega)
      rw [Nat.add_zero] at h0
      rw [h0, hcs 1 (by omega)]
      clear hcs h0 e1 e2 hx hi' hd hx1 hel
      rcases i with _|_|_|_|_|_|_|_|_|_|i
      all_goals first
        | omega
        | (simp only [List.getElem?_cons_zero, List.getElem?_cons_succ, Option.some.injEq, DataW.agg.injEq, List.cons.injEq, DataW.lit.injEq, Lit.string.injEq, Lit.int.injEq, and_true, true_and] at hk
           obtain ⟨hs, rfl⟩ := hk
           obtain rfl := ba_of s _ hs.symm
           exact ⟨rfl, rfl⟩)
    have hsz : cs2.size = 20 := by have := hlen; rw [cells113] at this; simpa using this
    rw [hv2]
    congr 1
    apply Array.ext_getElem?
    intro j
    by_cases hj : j < 20
    · obtain ⟨a0, a1⟩ := each (j / 2) (by omega)
      rcases (show j = j / 2 * 2 ∨ j = j / 2 * 2 + 1 by omega) with e | e
      · rw [e]; exact a0
      · rw [e]; exact a1
    · rw [Array.getElem?_eq_none (by omega), Array.getElem?_eq_none (by show (20 : Nat) ≤ _; omega)]
  · obtain rfl := Option.some.inj (gSyn.symm.trans hg1)
    obtain rfl := Option.some.inj (tSyn.symm.trans ht1)
    unfold Rows.laid_strconv_ErrSyntax at hd1
    obtain ⟨u, v, hcs⟩ := iface_read hd1
    have : cs1 = #[.iface u v] := by rw [← Array.toList_inj, hcs]
    exact ⟨u, v, by rw [hv1, this]⟩
  · obtain rfl := Option.some.inj (gRan.symm.trans hg0)
    obtain rfl := Option.some.inj (tRan.symm.trans ht0)
    unfold Rows.laid_strconv_ErrRange at hd0
    obtain ⟨u, v, hcs⟩ := iface_read hd0
    have : cs0 = #[.iface u v] := by rw [← Array.toList_inj, hcs]
    exact ⟨u, v, by rw [hv0, this]⟩

/-- The wrap that hands on what is listed and the world's shape both. -/
theorem ret_laid {H : Type} {enc : TypeId × Value → H} {os : Os} {f : FuncId} {fn : Func} {s : ChangeSpec} (started : os.Started) (noInit : Tryz.checked.prog.inits.idxOf? f = none) (hfn : Tryz.checked.prog.funcs[f]? = some fn)
    (witness : ∃ (w : World) (tape : Tape) (i : Input), w.os = os ∧ (w.forCall tape i).Shaped Tryz.checked.prog ∧ i.vars = [] ∧ Input.okWide Tryz.checked.prog (w.forCall tape i) .any w.heap.size f i ∧
      ((s.pre enc Tryz.checked.prog fn [] false (w.forCall tape i).memory i.args ∧ laidMetH Tryz.prog laidL (w.forCall tape i).memory) ∧ sizedMet enc Tryz.checked.prog fn (OpenSpec.ofChange s) false (w.forCall tape i).memory i.args) ∧ Assume.holds {} Tryz.checked.prog (lone (Frame.enter Tryz.checked.prog f i.args .normal) [] (w.forCall tape i)))
    (contract : ∀ (W : World) (base : Nat) (args : Array Value) (ds gs : List (DataW H)) (before : List MemPlace),
      (∀ (j : Nat) t v, fn.params[j]? = some t → args[j]? = some v → Value.okWide Tryz.checked.prog W .any base t v) →
      DataW.Whole enc Tryz.checked.prog fn.params.toList s.vars false W args.toList ds gs before → Env W →
      Calls Tryz.checked.prog f args W fun e W' => ∃ v, e = .returned v ∧ s.post enc Tryz.checked.prog fn false true false false W args v W') :
    ReturnsInHanded {} Tryz.checked os f .any (fun w args => (s.pre enc Tryz.prog fn [] false w args ∧ laidMetH Tryz.prog laidL w) ∧ sizedMet enc Tryz.prog fn (OpenSpec.ofChange s) false w args) (s.post enc Tryz.prog fn false true false false) := by
  refine returnsInHanded_of_calls own started noInit witness ?_
  intro w tape i _ hsh _ hok hpre _
  obtain ⟨_, _, _, fn', hfn', _, _, _, _, hval⟩ := hok
  obtain rfl : fn' = fn := Option.some.inj (hfn'.symm.trans hfn)
  obtain ⟨⟨⟨ds, gs, before, hw, _⟩, hx⟩, _⟩ := hpre
  have hw' := DataW.Whole.of_heap (w' := w.forCall tape i) (by rfl) hw
  have hx' : laidMetH Tryz.prog laidL (w.forCall tape i) := hx.of_heap (by rfl)
  refine (contract (w.forCall tape i) w.heap.size i.args ds gs before hval hw' (of_laid hx' hsh)).mono fun e W' ⟨v, he, hp⟩ => ?_
  subst he
  exact ChangeSpec.post_blind hp


end Go.Proofs.YtjppcfjjpkniaaaGreatDoor
