/- How values among the arguments are read; no statement is proved in this text. -/
import Derived.Test.YtgiemijhndanjaaDoorLaid
import Derived.Test.YtgiemijhndanjaaDoorVm
namespace Go.Proofs.YtgiemijhndanjaaDoor
open Go.ChangeShapes Go.WideShapes Go.ChangeAt Go.RowKit Go.Deep

set_option maxRecDepth 100000
theorem cells22v : Tryd.prog.cellsOf 22 = 1 := by kernel_rfl
theorem cells24v : Tryd.prog.cellsOf 24 = 4 := by kernel_rfl
theorem val_read {H : Type} {enc : TypeId × Value → H} {W : World} {spare : Nat → Bool} {held : Bool} : ∀ (N : Nat) (d : DataW H), SizeOf.sizeOf d ≤ N → ∀ (fuel : Nat) (cs : List Value) (ps : List MemPlace), DataW.trod enc Tryd.prog W 0 spare held fuel 24 cs = some (d, ps) →
    ∃ (V : Vl) (kv : Value), cs = [i64 V.kind, i64 V.num, str V.s, kv] ∧ Vd W (fun _ => True) V kv
  | 0, d, hN, _, _, _, _ => by cases d <;> simp at hN <;> omega
  | N + 1, d, hN, fuel, cs, ps, h => by
    obtain ⟨xs, n, _, hx, hl, hlen, hf⟩ := DataW.trod_struct Tryd.underlying24 h
    obtain ⟨c0, c1, c2, c3, rfl⟩ := list4 (hl.trans cells24v)
    obtain ⟨x0, x1, x2, x3, rfl⟩ := list4 (show xs.length = 4 from hlen)
    have g0 : DataW.trod enc Tryd.prog W 0 spare held n 3 (([c0, c1, c2, c3].drop 0).take (Tryd.prog.cellsOf 3)) = some x0 := hf 0 _ rfl
    have g1 : DataW.trod enc Tryd.prog W 0 spare held n 3 (([c0, c1, c2, c3].drop 1).take (Tryd.prog.cellsOf 3)) = some x1 := hf 1 _ rfl
    have g2 : DataW.trod enc Tryd.prog W 0 spare held n 9 (([c0, c1, c2, c3].drop 2).take (Tryd.prog.cellsOf 9)) = some x2 := hf 2 _ rfl
    have g3 : DataW.trod enc Tryd.prog W 0 spare held n 22 (([c0, c1, c2, c3].drop 3).take (Tryd.prog.cellsOf 22)) = some x3 := hf 3 _ rfl
    rw [cells3] at g0 g1
    rw [cells9] at g2
    rw [cells22v] at g3
    change DataW.trod enc Tryd.prog W 0 spare held n 3 [c0] = _ at g0
    change DataW.trod enc Tryd.prog W 0 spare held n 3 [c1] = _ at g1
    change DataW.trod enc Tryd.prog W 0 spare held n 9 [c2] = _ at g2
    change DataW.trod enc Tryd.prog W 0 spare held n 22 [c3] = _ at g3
    obtain ⟨k0, e0, _, _⟩ := DataW.trod_int Tryd.underlying3 g0
    obtain ⟨k1, e1, _, _⟩ := DataW.trod_int Tryd.underlying3 g1
    obtain ⟨s2, e2, _, hs2⟩ := DataW.trod_string Tryd.underlying9 g2
    simp only [List.cons.injEq, and_true] at e0 e1 e2
    subst e0 e1 e2
    have hsl : s2.data.toList.length ≤ maxLen := by rw [Array.length_toList]; exact hs2
    have hd : SizeOf.sizeOf x3.1 < SizeOf.sizeOf d := by
      have e : d = .agg [x0.1, x1.1, x2.1, x3.1] := by simpa using (Prod.mk.inj hx).1
      rw [e]
      simp
      omega
    rcases Deep.open_slice Tryd.underlying22 g3 with ⟨hcs, _⟩ | ⟨a, len, cap, m, n2, D, Pl, hcs, _, hl2, hm, hmm, hx3, hel⟩
    · simp at hcs
      subst hcs
      exact ⟨.mk k0 k1 s2.data.toList [], _, rfl, Vd.leaf _ _ _ _ _ hsl _ _⟩
    · simp at hcs
      subst hcs
      have hlm : len ≤ m := by rw [hmm]; split <;> omega
      have hone : ∀ i, ∃ p : Vl × Value, i < len → ((∀ j v, [i64 p.1.kind, i64 p.1.num, str p.1.s, p.2][j]? = some v → W.cell? ((a.add (i * 4)).add j) = some v) ∧ Vd W (fun _ => True) p.1 p.2) := by
        intro i
        by_cases hi : i < len
        · obtain ⟨cs', hc, hr⟩ := hel i (by omega)
          rw [cells24v] at hc
          have hdi : SizeOf.sizeOf (D i) < SizeOf.sizeOf d := by
            have : D i ∈ (List.range len).map D := List.mem_map.2 ⟨i, List.mem_range.2 hi, rfl⟩
            have h1 := List.sizeOf_lt_of_mem this
            have h2 : x3.1 = .slice ((List.range len).map D) ((List.range (m - len)).map fun j => D (len + j)) := by rw [hx3]
            rw [h2] at hd
            simp at hd
            omega
          obtain ⟨V, kv, rfl, hR⟩ := val_read N (D i) (by omega) n2 cs' (Pl i) hr
          obtain ⟨_, hlen4, hcell⟩ := World.cells?_some hc
          refine ⟨(V, kv), fun _ => ⟨fun j v hv => ?_, hR⟩⟩
          rw [hcell j (by have := (List.getElem?_eq_some_iff.1 hv).1; simpa using this)]
          exact hv
        · exact ⟨(.mk 0 0 [] [], undef), fun h => absurd h hi⟩
      obtain ⟨f, hf⟩ := Classical.axiomOfChoice hone
      have hlen : ((List.range len).map fun i => (f i).1).length = len := by simp
      refine ⟨.mk k0 k1 s2.data.toList ((List.range len).map fun i => (f i).1), _, rfl, ?_⟩
      have hgoal : Vd W (fun _ => True) (.mk k0 k1 s2.data.toList ((List.range len).map fun i => (f i).1)) (.slice (some a) ((List.range len).map fun i => (f i).1).length cap) := by
        have hget : ∀ (i : Nat) (T : Vl), ((List.range len).map fun i => (f i).1)[i]? = some T → i < len ∧ T = (f i).1 := by
          intro i T h1
          rw [List.getElem?_map] at h1
          obtain ⟨j, h2, rfl⟩ := Option.map_eq_some_iff.1 h1
          obtain ⟨h3, h4⟩ := List.getElem?_eq_some_iff.1 h2
          have hi : i < len := by simpa using h3
          have hj : j = i := by simpa using h4.symm
          subst hj
          exact ⟨hi, rfl⟩
        by_cases h0 : len = 0
        · subst h0
          exact .mk (kids := (List.range 0).map fun i => (f i).1) 0 0 (fun _ => undef) hsl (Nat.zero_le _) (Nat.zero_le _) (Or.inl rfl) (fun i T hT => by simp at hT) (fun i T hT => by simp at hT)
        · obtain ⟨b, off, spot⟩ := a
          have hc := (hf 0 (by omega)).1 0 _ rfl
          have hspot : spot = none := by simpa [Addr.add] using World.cell?_spot hc
          subst hspot
          have hlt := World.block_lt_of_cell? W _ hc
          rw [Addr.add_mid, Addr.add_mid] at hlt
          refine .mk b off (fun i => (f i).2) hsl (by rw [hlen]; omega) (by rw [hlen]; exact hl2) (Or.inr ⟨rfl, trivial, hlt⟩) ?_ ?_
          · intro i T hT j v hv
            obtain ⟨hi, rfl⟩ := hget i T hT
            have := (hf i hi).1 j v hv
            rw [Addr.add_mid, Addr.add_mid] at this
            exact this
          · intro i T hT
            obtain ⟨hi, rfl⟩ := hget i T hT
            exact (hf i hi).2
      rw [hlen] at hgoal
      exact hgoal
theorem val_arg {H : Type} {enc : TypeId × Value → H} {W : World} {r : Reach} {b0 : Nat} {spare : Nat → Bool} {held : Bool} {v : Value} {d : DataW H} {ps : List MemPlace} (hv : Value.okWide Tryd.prog W r b0 24 v)
    (h : DataW.Trod enc Tryd.prog W 0 spare held 24 v d ps) : ∃ (V : Vl) (kv : Value), v = vlV V kv ∧ Vd W (fun _ => True) V kv := by
  obtain ⟨⟨l⟩, rfl, _⟩ := okWide_struct Tryd.underlying24 hv
  obtain ⟨fuel, hf⟩ := h
  obtain ⟨V, kv, hk, hR⟩ := val_read (SizeOf.sizeOf d) d (Nat.le_refl _) fuel _ ps hf
  refine ⟨V, kv, ?_, hR⟩
  have hl : l = [i64 V.kind, i64 V.num, str V.s, kv] := hk
  rw [hl]
end Go.Proofs.YtgiemijhndanjaaDoor
