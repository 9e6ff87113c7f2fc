/- The law's set: its contract; no statement is proved in this text. -/
import Derived.Test.YtlofpamfodinfaaDoorJoin
namespace Go.Proofs.YtlofpamfodinfaaDoor
open Go.ChangeShapes Go.WideShapes Go.ChangeAt Go.RowKit

theorem set1 : btS ⟨1, 2, 0, 300⟩ = [1, 32, 1, 44] := by decide
theorem set2 : btE ⟨1, 2, 0, 300⟩ = 0 := by decide
theorem set3 : atI [1, 32, 1, 44, 120] 0 = ⟨1, 2, 0, 300⟩ := by decide
theorem set4 : atN [1, 32, 1, 44, 120] 0 = 4 := by decide
theorem set5 : atE [1, 32, 1, 44, 120] 0 = 0 := by decide
theorem set6 : alE [3, 18, 20, 5] = 0 := by decide
theorem set7 : alL [3, 18, 20, 5] = [⟨3, 1, 2, 0⟩, ⟨20, 0, 0, 5⟩] := by decide
theorem set8 : szI 17 = 3 := by decide

theorem eqIntE (d : Nat) (x y : Int) (w : World) : (Op.equalIn (d + 1) 3 (i64 x) (i64 y)).run Tryd.prog w = .ok (x == y) w := run_equalIn_int w d 3 .i64 .i64 x y Tryd.underlying3
theorem eqlI (a b : In) (w : World) : (binOp .eql 23 (inV a) (inV b)).run Tryd.prog w = .ok (.bool (decide (a = b))) w := by
  rw [run_eql_struct, run_equalIn_struct w 9999 23 _ _ (by kernel_rfl) (by kernel_rfl)]
  have p0 : ∀ (x y z u : Int) (w : World), (part 3 #[i64 x, i64 y, i64 z, i64 u] 0).run Tryd.prog w = .ok (i64 x) w := fun x y z u w => by kernel_rfl
  have p1 : ∀ (x y z u : Int) (w : World), (part 3 #[i64 x, i64 y, i64 z, i64 u] 1).run Tryd.prog w = .ok (i64 y) w := fun x y z u w => by kernel_rfl
  have p2 : ∀ (x y z u : Int) (w : World), (part 3 #[i64 x, i64 y, i64 z, i64 u] 2).run Tryd.prog w = .ok (i64 z) w := fun x y z u w => by kernel_rfl
  have p3 : ∀ (x y z u : Int) (w : World), (part 3 #[i64 x, i64 y, i64 z, i64 u] 3).run Tryd.prog w = .ok (i64 u) w := fun x y z u w => by kernel_rfl
  have hq := eqIntE 9998
  simp only [Program.fieldsOf, Tryd.underlying23]
  rcases a with ⟨a1, a2, a3, a4⟩
  rcases b with ⟨b1, b2, b3, b4⟩
  by_cases h1 : a1 = b1 <;> by_cases h2 : a2 = b2 <;> by_cases h3 : a3 = b3 <;> by_cases h4 : a4 = b4 <;> simp [Op.eqFields, p0, p1, p2, p3, hq, h1, h2, h3, h4, Result.andThen]

set_option maxHeartbeats 1600000 in
theorem set_ok (w : World) (ht : Tab w) : Calls Tryd.prog 15 #[] w fun e w' => e = .returned (.bool true) ∧ Below w.heap.size w w' := by
  have HT : Hid (Tab w) := ht
  clear ht
  go_enter Tryd.func15, Tryd.ntmps15
  go_wp2_with fail
  refine (bytes_any _ HT.out ⟨1, 2, 0, 300⟩).mono ?_
  rintro e w1 ⟨he, hb1⟩
  rw [set1, set2] at he
  subst he
  have HB1 : Hid (Below w.heap.size w w1) := hb1
  clear hb1
  go_wp2_with fail
  rw [show ((⟨#[1, 32, 1, 44]⟩ : ByteArray) ++ (⟨#[120]⟩ : ByteArray)) = ⟨([1, 32, 1, 44, 120] : List UInt8).toArray⟩ from rfl]
  refine (at_any _ (HT.out.below HB1.out) [1, 32, 1, 44, 120] (by decide) 0).mono ?_
  rintro e w2 ⟨he, hb2⟩
  rw [set3, set4, set5] at he
  subst he
  have HB2 : Hid (Below w.heap.size w w2) := HB1.out.trans (hb2.mono HB1.out.size)
  have hz2 := HB2.out.size
  have HT2 : Hid (Tab w2) := HT.out.below HB2.out
  clear hb2
  go_wp2_with fail
  refine (all_any _ (HT2.out.alloc _) [3, 18, 20, 5]).mono ?_
  rintro e w3 ⟨v, he, ho, hb3⟩
  rw [set6] at he
  rw [set7] at ho
  obtain ⟨ao, cap, rfl, hI, _⟩ := own_isl ho
  obtain ⟨b, off, rfl, hbl, c0, c1, c2, c3⟩ := hI.at (k := 1) (by simp)
  subst he
  have HB3 : Hid (Below w.heap.size w w3) := (HB2.out.alloc hz2 _).trans (hb3.mono (by simp <;> omega))
  obtain ⟨q0, q1, q2, q3⟩ := four_at (w := w2) (H := w2.heap.size) rfl (i64 1) (i64 2) (i64 0) (i64 300) 23 w3 (hb3.mono (by simp))
  have HT3 : Hid (Tab w3) := HT.out.below HB3.out
  have hq := fun W => eqlI ⟨20, 0, 0, 5⟩ ⟨20, 0, 0, 5⟩ W
  rw [decide_eq_true rfl] at hq
  have HZ : Hid (∀ w, Tab w → Calls Tryd.prog 13 #[i64 17] w fun e w' => e = .returned (i64 3) ∧ w' = w) := fun w ht => by have := size_ok w ht 17; rw [set8] at this; exact this
  clear hb3 ho hI
  simp only [List.getElem_cons_succ, List.getElem_cons_zero, Nat.one_mul] at c0 c1 c2 c3
  go_wp2_with (go_at_call 13; refine (HZ.out _ HT3.out).mono ?_; rintro e w4 ⟨rfl, rfl⟩)
  go_ret
  exact ⟨rfl, HB3.out⟩
end Go.Proofs.YtlofpamfodinfaaDoor
