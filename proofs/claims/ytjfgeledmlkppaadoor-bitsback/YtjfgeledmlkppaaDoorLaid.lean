/- What the listed variable gives (the table of ones lies in its cells), how arguments that were read are read again, and how a law's walk becomes its row; no statement is proved in this text. -/
import Derived.Test.YtjfgeledmlkppaaDoorFields
import Derived.Test.YtjfgeledmlkppaaDoorCards
import Derived.Test.YtjfgeledmlkppaaDoorTie
import Derived.LaidMore
import Derived.Stop.Joined
import Derived.SevenTiedAt
import Derived.ChangeOld
import Derived.ShutString
import Derived.Carry
namespace Go.Proofs.YtjfgeledmlkppaaDoor
open Go.ChangeShapes Go.WideShapes Go.ChangeAt Go.RowKit

abbrev laidL {H : Type} : List (String × DataW H) := [("imago/bits.onesOfHalf", Rows.laid_imago_bits_onesOfHalf)]
theorem own : ownKnob Tryd.prog.godebug = none := by kernel_rfl
theorem laidOut : laidOutB Tryd.prog = true := by kernel_rfl
theorem gOnes : Tryd.prog.globalNamed "imago/bits.onesOfHalf" = some 0 := by kernel_rfl
theorem tOnes : (Tryd.prog.globals[0]?).map (·.type) = some 59 := by kernel_rfl
theorem cells3 : Tryd.prog.cellsOf 3 = 1 := by kernel_rfl

theorem door_met (os : Os) (args : Array Value) : laidMetH Tryd.prog laidL ((World.doorLaid Tryd.prog 400 os).forCall (fun _ _ => 0) ⟨#[], args, []⟩).memory :=
  laidMetH_of_parts3 (fuel := 8) (laidMet_of_run' 8 (by kernel_rfl) (by kernel_rfl)) (by kernel_rfl) (by kernel_rfl)

/-- The condition gives the table. -/
theorem of_laid {W : World} (h : laidMetH Tryd.prog laidL W) : Tab W := by
  rw [MakeChecks.laidMetH_plain _ _ _ (by kernel_rfl)] at h
  obtain ⟨ps, ⟨g0, t0, cs0, f0, p0, q0, hg0, ht0, hv0, hd0, _, _⟩, _⟩ := h
  obtain rfl := Option.some.inj (gOnes.symm.trans hg0)
  obtain rfl := Option.some.inj (tOnes.symm.trans ht0)
  obtain ⟨xs, m1, rfl, hx1, hlen, hn3, hel⟩ := DataW.trod_array Tryd.underlying59 hd0
  simp only [Prod.mk.injEq] at hx1
  intro i hi
  have hi' := hel i (by omega)
  rw [cells3, Nat.mul_one] at hi'
  obtain ⟨x, hx⟩ : ∃ x, xs[i]? = some x := ⟨_, List.getElem?_eq_getElem (by omega)⟩
  rw [hx] at hi'
  obtain ⟨k, e1, e2, _⟩ := DataW.trod_int Tryd.underlying3 hi'
  have hc := World.var?_cell hg0 hv0 i
  have hcs : cs0[i]? = some (.int .i64 k) := by
    have h1 : (cs0.toList.drop i)[0]? = ([Value.int .i64 k] : List Value)[0]? := by
      rw [← e1]
      simp
    rw [List.getElem?_drop] at h1
    simpa using h1
  rw [hc, hcs]
  have hk : (xs.map (·.1))[i]? = some (.lit (.int .i64 k)) := by
    rw [List.getElem?_map, hx, e2]; rfl
  have hd := hx1.1
  unfold Rows.laid_imago_bits_onesOfHalf at hd
  simp only [DataW.agg.injEq] at hd
  rw [← hd] at hk
  rcases i with _|_|_|_|_|_|_|_|_|_|_|_|_|_|_|_|i
  all_goals first
    | omega
    | (simp at hk; subst hk; rfl)

/-- Arguments read again. -/
theorem trodAll_stays {H : Type} {enc : TypeId × Value → H} {P : Program} (hl : laidOutB P = true) {W W' : World} (hb : Below W.heap.size W W') : ∀ (ts : List TypeId) (vs : List Value) (ds : List (DataW H)) (ps : List MemPlace),
    (ts.all fun t => P.readableRec t && decide (t < P.types.size)) = true → DataW.TrodAll enc P W 0 (fun _ => true) true ts vs ds ps → DataW.TrodAll enc P W' 0 (fun b => decide (b < W.heap.size)) true ts vs ds ps
  | [], vs, ds, ps, _, h => by
    obtain ⟨rfl, rfl, rfl⟩ := trodAll_nil h
    exact trodAll_mk0
  | t :: ts, vs, ds, ps, ht, h => by
    simp only [List.all_cons, Bool.and_eq_true, decide_eq_true_eq] at ht
    obtain ⟨v, vs', d, ds', p, q, rfl, rfl, rfl, h0, hr⟩ := trodAll_cons h
    refine trodAll_cons_mk (Below.trod hl ht.1.1 ht.1.2 h0 hb ?_) (trodAll_stays hl hb ts vs' ds' q (by simpa using ht.2) hr)
    obtain ⟨m, hm⟩ := h0
    exact DataW.trod_lt m _ _ _ hm

theorem nat_u16 {n : Int} (h : (Lit.int .u16 n).wf = true) : ∃ x : Nat, n = x ∧ x < 65536 := by
  have hb := bounds_u16 h
  exact ⟨n.toNat, by omega, by omega⟩
theorem nat_u32 {n : Int} (h : (Lit.int .u32 n).wf = true) : ∃ x : Nat, n = x ∧ x < 4294967296 := by
  have hb := bounds_u32 h
  exact ⟨n.toNat, by omega, by omega⟩
theorem nat_u64 {n : Int} (h : (Lit.int .u64 n).wf = true) : ∃ x : Nat, n = x ∧ x < 18446744073709551616 := by
  have hb := bounds_u64 h
  exact ⟨n.toNat, by omega, by omega⟩
end Go.Proofs.YtjfgeledmlkppaaDoor
