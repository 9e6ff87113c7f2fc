/- Texts Laid Laid2 in one; no statement is proved in this text. -/
import Derived.Test.YtihbbgcpdgnhoaaGreatDoorPar
import Derived.Test.YtihbbgcpdgnhoaaGreatDoorCards
import Derived.Test.YtihbbgcpdgnhoaaGreatDoorTie
import Derived.LaidMore
import Derived.Stop.Joined
import Derived.SevenTiedAt
import Derived.ChangeOld
import Derived.ChangeSame
import Derived.ShutString
import Derived.Carry
import Derived.Deep.Slices
import Derived.Shelf.Vars
import Derived.HandedShaped
import Derived.Lay
import Derived.Test.YtihbbgcpdgnhoaaGreatDoorVm
import Derived.Test.YtihbbgcpdgnhoaaGreatDoorW4
namespace Go.Proofs.YtihbbgcpdgnhoaaGreatDoor
open Go.ChangeShapes Go.WideShapes Go.ChangeAt Go.RowKit
set_option maxRecDepth 100000

structure EnvW (w : World) : Prop where
  pw : Pw w
  ml : Ml w
abbrev laidL : List (String × DataW Unit) := [("math/bits.deBruijn32tab", Rows.laid_math_bits_deBruijn32tab), ("math/bits.deBruijn64tab", Rows.laid_math_bits_deBruijn64tab), ("internal/strconv.uint64pow10", Rows.laid_internal_strconv_uint64pow10)]
theorem gPow : Tryz.prog.globalNamed "internal/strconv.uint64pow10" = some 0 := by kernel_rfl
theorem tPow : (Tryz.prog.globals[0]?).map (·.type) = some 161 := by kernel_rfl
theorem max_some {w : World} (h : w.ShapedOpen Tryz.prog) : ∃ m, w.cell? ⟨1, 0, none⟩ = some (.int .i64 m) :=
  cell_of_shapedOpen_int (t := 3) (zero := #[.int .i64 0]) h (of_decide_eq_true (by kernel_rfl)) (by kernel_rfl) rfl (by kernel_rfl) (by kernel_rfl) Tryz.underlying3
theorem door_met (os : Os) (args : Array Value) : laidMetH Tryz.prog laidL ((World.laidAll Tryz.prog os laidL).forCall (fun _ _ => 0) ⟨#[], args, []⟩).memory := by
  rw [MakeChecks.laidMetH_plain _ _ _ (by kernel_rfl)]
  exact laidMet_laidAll _ (by kernel_rfl) (by kernel_rfl)
/-- The condition gives the tables. -/
theorem of_laid {W : World} (h : laidMetH Tryz.prog laidL W) (hsh : W.ShapedOpen Tryz.prog) : EnvW W := by
  rw [MakeChecks.laidMetH_plain _ _ _ (by kernel_rfl)] at h
  obtain ⟨ps, ⟨_, _, _, _, _, _, _, _, _, _, ⟨_, _, _, _, _, _, _, _, _, _, ⟨gp, tp, csp, fp, pp, qp, hgp, htp, hvp, hdp, _, _⟩, _⟩, _⟩, _⟩ := h
  refine ⟨?_, max_some hsh⟩
  obtain rfl := Option.some.inj (gPow.symm.trans hgp)
  obtain rfl := Option.some.inj (tPow.symm.trans htp)
  have e : (Rows.laid_internal_strconv_uint64pow10 : DataW Unit) = Lib.tabData .u64 Lib.pow10Tab := by kernel_rfl
  rw [e] at hdp
  unfold Pw Lib.TabIs
  rw [hvp, ← Lib.cells_of_tab (n := 20) (e := 128) (by kernel_rfl) (by kernel_rfl) (by kernel_rfl) (by kernel_rfl) hdp]

/-- The wrap that hands on what is listed and the world's shape both. -/
theorem ret_laid {H : Type} {enc : TypeId × Value → H} {os : Os} {f : FuncId} {fn : Func} {s : ChangeSpec} (started : os.Started) (noInit : Tryz.checked.prog.inits.idxOf? f = none) (hfn : Tryz.checked.prog.funcs[f]? = some fn)
    (witness : ∃ (w : World) (tape : Tape) (i : Input), w.os = os ∧ (w.forCall tape i).Shaped Tryz.checked.prog ∧ i.vars = [] ∧ Input.okWide Tryz.checked.prog (w.forCall tape i) .any w.heap.size f i ∧
      ((s.pre enc Tryz.checked.prog fn [] false (w.forCall tape i).memory i.args ∧ laidMetH Tryz.prog laidL (w.forCall tape i).memory) ∧ sizedMet enc Tryz.checked.prog fn (OpenSpec.ofChange s) false (w.forCall tape i).memory i.args) ∧ Assume.holds {} Tryz.checked.prog (lone (Frame.enter Tryz.checked.prog f i.args .normal) [] (w.forCall tape i)))
    (contract : ∀ (W : World) (base : Nat) (args : Array Value) (ds gs : List (DataW H)) (before : List MemPlace),
      (∀ (j : Nat) t v, fn.params[j]? = some t → args[j]? = some v → Value.okWide Tryz.checked.prog W .any base t v) →
      DataW.Whole enc Tryz.checked.prog fn.params.toList s.vars false W args.toList ds gs before → EnvW W →
      Calls Tryz.checked.prog f args W fun e W' => ∃ v, e = .returned v ∧ s.post enc Tryz.checked.prog fn false true false false W args v W') :
    ReturnsInHanded {} Tryz.checked os f .any (fun w args => (s.pre enc Tryz.prog fn [] false w args ∧ laidMetH Tryz.prog laidL w) ∧ sizedMet enc Tryz.prog fn (OpenSpec.ofChange s) false w args) (s.post enc Tryz.prog fn false true false false) := by
  refine returnsInHanded_of_calls own started noInit witness ?_
  intro w tape i _ hsh _ hok hpre _
  obtain ⟨_, _, _, fn', hfn', _, _, _, _, hval⟩ := hok
  obtain rfl : fn' = fn := Option.some.inj (hfn'.symm.trans hfn)
  obtain ⟨⟨⟨ds, gs, before, hw, _⟩, hx⟩, _⟩ := hpre
  have hw' := DataW.Whole.of_heap (w' := w.forCall tape i) (by rfl) hw
  have hx' : laidMetH Tryz.prog laidL (w.forCall tape i) := hx.of_heap (by rfl)
  refine (contract (w.forCall tape i) w.heap.size i.args ds gs before hval hw' (of_laid hx' hsh)).mono fun e W' ⟨v, he, hp⟩ => ?_
  subst he
  exact ChangeSpec.post_blind hp


/-! ### Types among the arguments -/
theorem cells3 : Tryz.prog.cellsOf 3 = 1 := by kernel_rfl
theorem cells9 : Tryz.prog.cellsOf 9 = 1 := by kernel_rfl
theorem cells22 : Tryz.prog.cellsOf 22 = 1 := by kernel_rfl
theorem cells23 : Tryz.prog.cellsOf 23 = 1 := by kernel_rfl
theorem cells25 : Tryz.prog.cellsOf 25 = 4 := by kernel_rfl
theorem list4 {α : Type} : ∀ {l : List α}, l.length = 4 → ∃ a b c d, l = [a, b, c, d]
  | [a, b, c, d], _ => ⟨a, b, c, d, rfl⟩
theorem strs_read {H : Type} {enc : TypeId × Value → H} {W : World} {spare : Nat → Bool} {held : Bool} {fuel : Nat} {v : Value} {x : DataW H × List MemPlace} (h : DataW.trod enc Tryz.prog W 0 spare held fuel 22 [v] = some x) : ∃ l : List Bs, Strs W (fun _ => True) v l := by
  rcases Deep.open_slice Tryz.underlying22 h with ⟨hcs, _⟩ | ⟨a, len, cap, m, n, D, Pl, hcs, _, hl, hm, hmm, _, hel⟩
  · simp at hcs
    subst hcs
    exact ⟨[], none, 0, rfl, Nat.zero_le _, ⟨Nat.le_refl _, fun x hx => by cases hx⟩, Or.inl rfl⟩
  · simp at hcs
    subst hcs
    have hlm : len ≤ m := by rw [hmm]; split <;> omega
    have hone : ∀ i, ∃ st : Bs, i < len → (st.length ≤ maxLen ∧ W.cell? (a.add (i * 1)) = some (str st)) := by
      intro i
      by_cases hi : i < len
      · obtain ⟨cs', hc, hr⟩ := hel i (by omega)
        rw [cells9] at hc
        obtain ⟨s, e0, _, hw⟩ := DataW.trod_string Tryz.underlying9 hr
        obtain ⟨_, _, hcell⟩ := World.cells?_some hc
        have h0 := hcell 0 (by omega)
        rw [e0] at h0
        refine ⟨s.data.toList, fun _ => ⟨by show s.data.toList.length ≤ maxLen; rw [Array.length_toList]; exact hw, ?_⟩⟩
        have e1 : (a.add (i * 1)).add 0 = a.add (i * 1) := by simp [Addr.add]
        rw [e1] at h0
        rw [h0]
        rfl
      · exact ⟨[], fun h => absurd h hi⟩
    obtain ⟨f, hf⟩ := Classical.axiomOfChoice hone
    refine ⟨(List.range len).map f, some a, cap, by simp, by simp; omega, ⟨by simp; exact hl, fun x hx => ?_⟩, ?_⟩
    · obtain ⟨i, hi, rfl⟩ := List.mem_map.1 hx
      exact (hf i (List.mem_range.1 hi)).1
    · by_cases h0 : len = 0
      · subst h0; exact Or.inl rfl
      · right
        obtain ⟨b, off, spot⟩ := a
        have hc := (hf 0 (by omega)).2
        have hspot : spot = none := by simpa [Addr.add] using World.cell?_spot hc
        subst hspot
        have hlt := World.block_lt_of_cell? W _ hc
        rw [Addr.add_mid] at hlt
        refine ⟨b, off, rfl, trivial, hlt, fun i x hx => ?_⟩
        rw [List.getElem?_map] at hx
        obtain ⟨j, h1, rfl⟩ := Option.map_eq_some_iff.1 hx
        obtain ⟨h2, h3⟩ := List.getElem?_eq_some_iff.1 h1
        have hi : i < len := by simpa using h2
        have hj : j = i := by simpa using h3.symm
        subst hj
        have := (hf j hi).2
        rw [Addr.add_mid, Nat.mul_one] at this
        exact this
theorem type_read {H : Type} {enc : TypeId × Value → H} {W : World} {spare : Nat → Bool} {held : Bool} : ∀ (N : Nat) (d : DataW H), SizeOf.sizeOf d ≤ N → ∀ (fuel : Nat) (cs : List Value) (ps : List MemPlace), DataW.trod enc Tryz.prog W 0 spare held fuel 25 cs = some (d, ps) →
    ∃ (T : Ty) (nv kv : Value), cs = [i64 T.kind, i64 T.num, nv, kv] ∧ Rd W (fun _ => True) T nv kv
  | 0, d, hN, _, _, _, _ => by cases d <;> simp at hN <;> omega
  | N + 1, d, hN, fuel, cs, ps, h => by
    obtain ⟨xs, n, _, hx, hl, hlen, hf⟩ := DataW.trod_struct Tryz.underlying25 h
    obtain ⟨c0, c1, c2, c3, rfl⟩ := list4 (hl.trans cells25)
    obtain ⟨x0, x1, x2, x3, rfl⟩ := list4 (show xs.length = 4 from hlen)
    have g0 : DataW.trod enc Tryz.prog W 0 spare held n 3 (([c0, c1, c2, c3].drop 0).take (Tryz.prog.cellsOf 3)) = some x0 := hf 0 _ rfl
    have g1 : DataW.trod enc Tryz.prog W 0 spare held n 3 (([c0, c1, c2, c3].drop 1).take (Tryz.prog.cellsOf 3)) = some x1 := hf 1 _ rfl
    have g2 : DataW.trod enc Tryz.prog W 0 spare held n 22 (([c0, c1, c2, c3].drop 2).take (Tryz.prog.cellsOf 22)) = some x2 := hf 2 _ rfl
    have g3 : DataW.trod enc Tryz.prog W 0 spare held n 23 (([c0, c1, c2, c3].drop 3).take (Tryz.prog.cellsOf 23)) = some x3 := hf 3 _ rfl
    rw [cells3] at g0 g1
    rw [cells22] at g2
    rw [cells23] at g3
    change DataW.trod enc Tryz.prog W 0 spare held n 3 [c0] = _ at g0
    change DataW.trod enc Tryz.prog W 0 spare held n 3 [c1] = _ at g1
    change DataW.trod enc Tryz.prog W 0 spare held n 22 [c2] = _ at g2
    change DataW.trod enc Tryz.prog W 0 spare held n 23 [c3] = _ at g3
    obtain ⟨k0, e0, _, _⟩ := DataW.trod_int Tryz.underlying3 g0
    obtain ⟨k1, e1, _, _⟩ := DataW.trod_int Tryz.underlying3 g1
    simp only [List.cons.injEq, and_true] at e0 e1
    subst e0 e1
    obtain ⟨names, hn⟩ := strs_read g2
    have hd : SizeOf.sizeOf x3.1 < SizeOf.sizeOf d := by
      have e : d = .agg [x0.1, x1.1, x2.1, x3.1] := by simpa using (Prod.mk.inj hx).1
      rw [e]
      simp
      omega
    rcases Deep.open_slice Tryz.underlying23 g3 with ⟨hcs, _⟩ | ⟨a, len, cap, m, n2, D, Pl, hcs, _, hl2, hm, hmm, hx3, hel⟩
    · simp at hcs
      subst hcs
      exact ⟨.mk k0 k1 names [], c2, _, rfl, .mk (kids := []) 0 0 (fun _ => undef) (fun _ => undef) hn (Nat.zero_le _) (Or.inl rfl) (fun i T hT => by simp at hT) (fun i T hT => by simp at hT)⟩
    · simp at hcs
      subst hcs
      have hlm : len ≤ m := by rw [hmm]; split <;> omega
      have hone : ∀ i, ∃ p : Ty × Value × Value, i < len → ((∀ j v, [i64 p.1.kind, i64 p.1.num, p.2.1, p.2.2][j]? = some v → W.cell? ((a.add (i * 4)).add j) = some v) ∧ Rd W (fun _ => True) p.1 p.2.1 p.2.2) := by
        intro i
        by_cases hi : i < len
        · obtain ⟨cs', hc, hr⟩ := hel i (by omega)
          rw [cells25] at hc
          have hdi : SizeOf.sizeOf (D i) < SizeOf.sizeOf d := by
            have : D i ∈ (List.range len).map D := List.mem_map.2 ⟨i, List.mem_range.2 hi, rfl⟩
            have h1 := List.sizeOf_lt_of_mem this
            have h2 : x3.1 = .slice ((List.range len).map D) ((List.range (m - len)).map fun j => D (len + j)) := by rw [hx3]
            rw [h2] at hd
            simp at hd
            omega
          obtain ⟨T, nv, kv, rfl, hR⟩ := type_read N (D i) (by omega) n2 cs' (Pl i) hr
          obtain ⟨_, hlen4, hcell⟩ := World.cells?_some hc
          refine ⟨(T, nv, kv), fun _ => ⟨fun j v hv => ?_, hR⟩⟩
          rw [hcell j (by have := (List.getElem?_eq_some_iff.1 hv).1; simpa using this)]
          exact hv
        · exact ⟨(.mk 0 0 [] [], undef, undef), fun h => absurd h hi⟩
      obtain ⟨f, hf⟩ := Classical.axiomOfChoice hone
      have hlen : ((List.range len).map fun i => (f i).1).length = len := by simp
      refine ⟨.mk k0 k1 names ((List.range len).map fun i => (f i).1), c2, _, rfl, ?_⟩
      have hgoal : Rd W (fun _ => True) (.mk k0 k1 names ((List.range len).map fun i => (f i).1)) c2 (.slice (some a) ((List.range len).map fun i => (f i).1).length cap) := by
        have hget : ∀ (i : Nat) (T : Ty), ((List.range len).map fun i => (f i).1)[i]? = some T → i < len ∧ T = (f i).1 := by
          intro i T h1
          rw [List.getElem?_map] at h1
          obtain ⟨j, h2, rfl⟩ := Option.map_eq_some_iff.1 h1
          obtain ⟨h3, h4⟩ := List.getElem?_eq_some_iff.1 h2
          have hi : i < len := by simpa using h3
          have hj : j = i := by simpa using h4.symm
          subst hj
          exact ⟨hi, rfl⟩
        by_cases h0 : len = 0
        · subst h0
          exact .mk (kids := (List.range 0).map fun i => (f i).1) 0 0 (fun _ => undef) (fun _ => undef) hn (Nat.zero_le _) (Or.inl rfl) (fun i T hT => by simp at hT) (fun i T hT => by simp at hT)
        · obtain ⟨b, off, spot⟩ := a
          have hc := (hf 0 (by omega)).1 0 _ rfl
          have hspot : spot = none := by simpa [Addr.add] using World.cell?_spot hc
          subst hspot
          have hlt := World.block_lt_of_cell? W _ hc
          rw [Addr.add_mid, Addr.add_mid] at hlt
          refine .mk b off (fun i => (f i).2.1) (fun i => (f i).2.2) hn (by rw [hlen]; omega) (Or.inr ⟨rfl, trivial, hlt⟩) ?_ ?_
          · intro i T hT j v hv
            obtain ⟨hi, rfl⟩ := hget i T hT
            have := (hf i hi).1 j v hv
            rw [Addr.add_mid, Addr.add_mid] at this
            exact this
          · intro i T hT
            obtain ⟨hi, rfl⟩ := hget i T hT
            exact (hf i hi).2
      rw [hlen] at hgoal
      exact hgoal
theorem type_arg {H : Type} {enc : TypeId × Value → H} {W : World} {r : Reach} {b0 : Nat} {spare : Nat → Bool} {held : Bool} {v : Value} {d : DataW H} {ps : List MemPlace} (hv : Value.okWide Tryz.prog W r b0 25 v)
    (h : DataW.Trod enc Tryz.prog W 0 spare held 25 v d ps) : ∃ (T : Ty) (nv kv : Value), v = tyV T.kind T.num nv kv ∧ Rd W (fun _ => True) T nv kv := by
  obtain ⟨⟨l⟩, rfl, _⟩ := okWide_struct Tryz.underlying25 hv
  obtain ⟨fuel, hf⟩ := h
  obtain ⟨T, nv, kv, hk, hR⟩ := type_read (SizeOf.sizeOf d) d (Nat.le_refl _) fuel _ ps hf
  refine ⟨T, nv, kv, ?_, hR⟩
  have hl : l = [i64 T.kind, i64 T.num, nv, kv] := hk
  rw [hl]
end Go.Proofs.YtihbbgcpdgnhoaaGreatDoor
namespace Go.Proofs.YtihbbgcpdgnhoaaGreatDoor
open Go.ChangeShapes Go.WideShapes Go.ChangeAt Go.RowKit Go.Deep

set_option maxRecDepth 100000
theorem cells26v : Tryz.prog.cellsOf 26 = 1 := by kernel_rfl
theorem cells28v : Tryz.prog.cellsOf 28 = 4 := by kernel_rfl
theorem val_read {H : Type} {enc : TypeId × Value → H} {W : World} {spare : Nat → Bool} {held : Bool} : ∀ (N : Nat) (d : DataW H), SizeOf.sizeOf d ≤ N → ∀ (fuel : Nat) (cs : List Value) (ps : List MemPlace), DataW.trod enc Tryz.prog W 0 spare held fuel 28 cs = some (d, ps) →
    ∃ (V : Vl) (kv : Value), cs = [i64 V.kind, i64 V.num, str V.s, kv] ∧ Vd W (fun _ => True) V kv
  | 0, d, hN, _, _, _, _ => by cases d <;> simp at hN <;> omega
  | N + 1, d, hN, fuel, cs, ps, h => by
    obtain ⟨xs, n, _, hx, hl, hlen, hf⟩ := DataW.trod_struct Tryz.underlying28 h
    obtain ⟨c0, c1, c2, c3, rfl⟩ := list4 (hl.trans cells28v)
    obtain ⟨x0, x1, x2, x3, rfl⟩ := list4 (show xs.length = 4 from hlen)
    have g0 : DataW.trod enc Tryz.prog W 0 spare held n 3 (([c0, c1, c2, c3].drop 0).take (Tryz.prog.cellsOf 3)) = some x0 := hf 0 _ rfl
    have g1 : DataW.trod enc Tryz.prog W 0 spare held n 3 (([c0, c1, c2, c3].drop 1).take (Tryz.prog.cellsOf 3)) = some x1 := hf 1 _ rfl
    have g2 : DataW.trod enc Tryz.prog W 0 spare held n 9 (([c0, c1, c2, c3].drop 2).take (Tryz.prog.cellsOf 9)) = some x2 := hf 2 _ rfl
    have g3 : DataW.trod enc Tryz.prog W 0 spare held n 26 (([c0, c1, c2, c3].drop 3).take (Tryz.prog.cellsOf 26)) = some x3 := hf 3 _ rfl
    rw [cells3] at g0 g1
    rw [cells9] at g2
    rw [cells26v] at g3
    change DataW.trod enc Tryz.prog W 0 spare held n 3 [c0] = _ at g0
    change DataW.trod enc Tryz.prog W 0 spare held n 3 [c1] = _ at g1
    change DataW.trod enc Tryz.prog W 0 spare held n 9 [c2] = _ at g2
    change DataW.trod enc Tryz.prog W 0 spare held n 26 [c3] = _ at g3
    obtain ⟨k0, e0, _, _⟩ := DataW.trod_int Tryz.underlying3 g0
    obtain ⟨k1, e1, _, _⟩ := DataW.trod_int Tryz.underlying3 g1
    obtain ⟨s2, e2, _, hs2⟩ := DataW.trod_string Tryz.underlying9 g2
    simp only [List.cons.injEq, and_true] at e0 e1 e2
    subst e0 e1 e2
    have hsl : s2.data.toList.length ≤ maxLen := by rw [Array.length_toList]; exact hs2
    have hd : SizeOf.sizeOf x3.1 < SizeOf.sizeOf d := by
      have e : d = .agg [x0.1, x1.1, x2.1, x3.1] := by simpa using (Prod.mk.inj hx).1
      rw [e]
      simp
      omega
    rcases Deep.open_slice Tryz.underlying26 g3 with ⟨hcs, _⟩ | ⟨a, len, cap, m, n2, D, Pl, hcs, _, hl2, hm, hmm, hx3, hel⟩
    · simp at hcs
      subst hcs
      exact ⟨.mk k0 k1 s2.data.toList [], _, rfl, Vd.leaf _ _ _ _ _ hsl _ _⟩
    · simp at hcs
      subst hcs
      have hlm : len ≤ m := by rw [hmm]; split <;> omega
      have hone : ∀ i, ∃ p : Vl × Value, i < len → ((∀ j v, [i64 p.1.kind, i64 p.1.num, str p.1.s, p.2][j]? = some v → W.cell? ((a.add (i * 4)).add j) = some v) ∧ Vd W (fun _ => True) p.1 p.2) := by
        intro i
        by_cases hi : i < len
        · obtain ⟨cs', hc, hr⟩ := hel i (by omega)
          rw [cells28v] at hc
          have hdi : SizeOf.sizeOf (D i) < SizeOf.sizeOf d := by
            have : D i ∈ (List.range len).map D := List.mem_map.2 ⟨i, List.mem_range.2 hi, rfl⟩
            have h1 := List.sizeOf_lt_of_mem this
            have h2 : x3.1 = .slice ((List.range len).map D) ((List.range (m - len)).map fun j => D (len + j)) := by rw [hx3]
            rw [h2] at hd
            simp at hd
            omega
          obtain ⟨V, kv, rfl, hR⟩ := val_read N (D i) (by omega) n2 cs' (Pl i) hr
          obtain ⟨_, hlen4, hcell⟩ := World.cells?_some hc
          refine ⟨(V, kv), fun _ => ⟨fun j v hv => ?_, hR⟩⟩
          rw [hcell j (by have := (List.getElem?_eq_some_iff.1 hv).1; simpa using this)]
          exact hv
        · exact ⟨(.mk 0 0 [] [], undef), fun h => absurd h hi⟩
      obtain ⟨f, hf⟩ := Classical.axiomOfChoice hone
      have hlen : ((List.range len).map fun i => (f i).1).length = len := by simp
      refine ⟨.mk k0 k1 s2.data.toList ((List.range len).map fun i => (f i).1), _, rfl, ?_⟩
      have hgoal : Vd W (fun _ => True) (.mk k0 k1 s2.data.toList ((List.range len).map fun i => (f i).1)) (.slice (some a) ((List.range len).map fun i => (f i).1).length cap) := by
        have hget : ∀ (i : Nat) (T : Vl), ((List.range len).map fun i => (f i).1)[i]? = some T → i < len ∧ T = (f i).1 := by
          intro i T h1
          rw [List.getElem?_map] at h1
          obtain ⟨j, h2, rfl⟩ := Option.map_eq_some_iff.1 h1
          obtain ⟨h3, h4⟩ := List.getElem?_eq_some_iff.1 h2
          have hi : i < len := by simpa using h3
          have hj : j = i := by simpa using h4.symm
          subst hj
          exact ⟨hi, rfl⟩
        by_cases h0 : len = 0
        · subst h0
          exact .mk (kids := (List.range 0).map fun i => (f i).1) 0 0 (fun _ => undef) hsl (Nat.zero_le _) (Nat.zero_le _) (Or.inl rfl) (fun i T hT => by simp at hT) (fun i T hT => by simp at hT)
        · obtain ⟨b, off, spot⟩ := a
          have hc := (hf 0 (by omega)).1 0 _ rfl
          have hspot : spot = none := by simpa [Addr.add] using World.cell?_spot hc
          subst hspot
          have hlt := World.block_lt_of_cell? W _ hc
          rw [Addr.add_mid, Addr.add_mid] at hlt
          refine .mk b off (fun i => (f i).2) hsl (by rw [hlen]; omega) (by rw [hlen]; exact hl2) (Or.inr ⟨rfl, trivial, hlt⟩) ?_ ?_
          · intro i T hT j v hv
            obtain ⟨hi, rfl⟩ := hget i T hT
            have := (hf i hi).1 j v hv
            rw [Addr.add_mid, Addr.add_mid] at this
            exact this
          · intro i T hT
            obtain ⟨hi, rfl⟩ := hget i T hT
            exact (hf i hi).2
      rw [hlen] at hgoal
      exact hgoal
theorem val_arg {H : Type} {enc : TypeId × Value → H} {W : World} {r : Reach} {b0 : Nat} {spare : Nat → Bool} {held : Bool} {v : Value} {d : DataW H} {ps : List MemPlace} (hv : Value.okWide Tryz.prog W r b0 28 v)
    (h : DataW.Trod enc Tryz.prog W 0 spare held 28 v d ps) : ∃ (V : Vl) (kv : Value), v = vlV V kv ∧ Vd W (fun _ => True) V kv := by
  obtain ⟨⟨l⟩, rfl, _⟩ := okWide_struct Tryz.underlying28 hv
  obtain ⟨fuel, hf⟩ := h
  obtain ⟨V, kv, hk, hR⟩ := val_read (SizeOf.sizeOf d) d (Nat.le_refl _) fuel _ ps hf
  refine ⟨V, kv, ?_, hR⟩
  have hl : l = [i64 V.kind, i64 V.num, str V.s, kv] := hk
  rw [hl]
theorem cells25s : Tryz.prog.cellsOf 25 = 4 := by kernel_rfl
theorem cells30s : Tryz.prog.cellsOf 30 = 9 := by kernel_rfl
theorem list9 {α : Type} : ∀ {l : List α}, l.length = 9 → ∃ a b c d e f g h i, l = [a, b, c, d, e, f, g, h, i]
  | [a, b, c, d, e, f, g, h, i], _ => ⟨a, b, c, d, e, f, g, h, i, rfl⟩
theorem list3s {α : Type} : ∀ {l : List α}, l.length = 3 → ∃ a b c, l = [a, b, c]
  | [a, b, c], _ => ⟨a, b, c, rfl⟩
theorem state_arg {H : Type} {enc : TypeId × Value → H} {W : World} {r : Reach} {b0 : Nat} {spare : Nat → Bool} {held : Bool} {v : Value} {d : DataW H} {ps : List MemPlace} (hv : Value.okWide Tryz.prog W r b0 30 v)
    (h : DataW.Trod enc Tryz.prog W 0 spare held 30 v d ps) : ∃ (n : Int) (T : Ty) (V : Vl) (nv tv kv : Value), v = stV n T V nv tv kv ∧ Rd W (fun _ => True) T nv tv ∧ Vd W (fun _ => True) V kv := by
  obtain ⟨⟨l⟩, rfl, _⟩ := okWide_struct Tryz.underlying30 hv
  obtain ⟨fuel, hf0⟩ := h
  obtain ⟨xs, m, _, hx, hl, hlen, hf⟩ := DataW.trod_struct Tryz.underlying30 hf0
  obtain ⟨c0, c1, c2, c3, c4, c5, c6, c7, c8, hl9⟩ := list9 (hl.trans cells30s)
  obtain ⟨x0, x1, x2, rfl⟩ := list3s (show xs.length = 3 from hlen)
  rw [hl9] at hf
  have g0 : DataW.trod enc Tryz.prog W 0 spare held m 3 (([c0, c1, c2, c3, c4, c5, c6, c7, c8].drop 0).take (Tryz.prog.cellsOf 3)) = some x0 := hf 0 _ rfl
  have g1 : DataW.trod enc Tryz.prog W 0 spare held m 25 (([c0, c1, c2, c3, c4, c5, c6, c7, c8].drop 1).take (Tryz.prog.cellsOf 25)) = some x1 := hf 1 _ rfl
  have g2 : DataW.trod enc Tryz.prog W 0 spare held m 28 (([c0, c1, c2, c3, c4, c5, c6, c7, c8].drop 5).take (Tryz.prog.cellsOf 28)) = some x2 := hf 2 _ rfl
  rw [cells3] at g0
  rw [cells25s] at g1
  rw [cells28v] at g2
  change DataW.trod enc Tryz.prog W 0 spare held m 3 [c0] = _ at g0
  change DataW.trod enc Tryz.prog W 0 spare held m 25 [c1, c2, c3, c4] = _ at g1
  change DataW.trod enc Tryz.prog W 0 spare held m 28 [c5, c6, c7, c8] = _ at g2
  obtain ⟨k0, e0, _, _⟩ := DataW.trod_int Tryz.underlying3 g0
  obtain ⟨T, nv, tv, e1, hR⟩ := type_read (SizeOf.sizeOf x1.1) x1.1 (Nat.le_refl _) m _ x1.2 g1
  obtain ⟨V, kv, e2, hV⟩ := val_read (SizeOf.sizeOf x2.1) x2.1 (Nat.le_refl _) m _ x2.2 g2
  simp only [List.cons.injEq, and_true] at e0 e1 e2
  obtain ⟨rfl, rfl, rfl, rfl⟩ := e1
  obtain ⟨rfl, rfl, rfl, rfl⟩ := e2
  subst e0
  refine ⟨k0, T, V, c3, c4, c8, ?_, hR, hV⟩
  have : l = [i64 k0, i64 T.kind, i64 T.num, c3, c4, i64 V.kind, i64 V.num, str V.s, c8] := hl9
  rw [this]
end Go.Proofs.YtihbbgcpdgnhoaaGreatDoor
