/- CodeInsts' walk: each instruction's bytes, and the instruction at any place, are as the document's; no statement is proved in this text. -/
import Derived.Test.YtlofpamfodinfaaDoorRAt
import Derived.Deep.RegionHeld3
namespace Go.Proofs.YtlofpamfodinfaaDoor
open Go.ChangeShapes Go.WideShapes Go.ChangeAt Go.RowKit

theorem eqlR (a : In) (w : World) : (binOp .eql 29 (inV a) (inV a)).run Tryd.prog w = .ok (.bool true) w := by
  obtain ⟨a1, a2, a3, a4⟩ := a
  rw [run_eql_struct, run_equalIn_struct w 9999 29 _ _ (by kernel_rfl) (by kernel_rfl)]
  have p0 : ∀ (x y z u : Int) (w : World), (part 3 #[i64 x, i64 y, i64 z, i64 u] 0).run Tryd.prog w = .ok (i64 x) w := fun x y z u w => by kernel_rfl
  have p1 : ∀ (x y z u : Int) (w : World), (part 3 #[i64 x, i64 y, i64 z, i64 u] 1).run Tryd.prog w = .ok (i64 y) w := fun x y z u w => by kernel_rfl
  have p2 : ∀ (x y z u : Int) (w : World), (part 3 #[i64 x, i64 y, i64 z, i64 u] 2).run Tryd.prog w = .ok (i64 z) w := fun x y z u w => by kernel_rfl
  have p3 : ∀ (x y z u : Int) (w : World), (part 3 #[i64 x, i64 y, i64 z, i64 u] 3).run Tryd.prog w = .ok (i64 u) w := fun x y z u w => by kernel_rfl
  have hq := eqIntE 9998
  simp only [Program.fieldsOf, Tryd.underlying29]
  simp [Op.eqFields, p0, p1, p2, p3, hq, Result.andThen]

set_option maxRecDepth 100000 in
set_option maxHeartbeats 4000000 in
theorem insts_walk (w : World) (ht : Tab w) (i : In) (l : List UInt8) (hl : l.length ≤ maxLen) (p : Int) : Calls Tryd.prog 3 #[inV i, .string ⟨l.toArray⟩, i64 p] w fun e w' => e = .returned (.bool true) ∧ Below w.heap.size w w' := by
  have HT : Hid (Tab w) := ht
  have H1 : Hid (∀ w, Tab w → Calls Tryd.prog 8 #[inV i] w fun e w' => e = .returned (.tuple #[.string ⟨(btS i).toArray⟩, i64 (btE i)]) ∧ Below w.heap.size w w') := fun w ht => bytes_any w ht i
  have H2 : Hid (∀ w, Calls Tryd.prog 9 #[inV i] w fun e w' => e = .returned (.tuple #[.string ⟨(btS i).toArray⟩, i64 (btE i)]) ∧ Below w.heap.size w w') := fun w => rbytes_ok w i
  have H3 : Hid (∀ w, Tab w → Calls Tryd.prog 11 #[.string ⟨l.toArray⟩, i64 p] w fun e w' => e = .returned (atV (atI l p) (atN l p) (atE l p)) ∧ Below w.heap.size w w') := fun w ht => at_any w ht l hl p
  have H4 : Hid (∀ w, Calls Tryd.prog 12 #[.string ⟨l.toArray⟩, i64 p] w fun e w' => e = .returned (gotV (atI l p) (atN l p) (atE l p)) ∧ Below w.heap.size w w') := fun w => rat_any w l hl p
  have HZ1 : Hid (∀ w, Tab w → Calls Tryd.prog 13 #[i64 i.op] w fun e w' => e = .returned (i64 (szI i.op)) ∧ w' = w) := fun w ht => size_ok w ht i.op
  have HZ2 : Hid (∀ w, Calls Tryd.prog 14 #[i64 i.op] w fun e w' => e = .returned (i64 (szI i.op)) ∧ w' = w) := fun w => rsize_ok w i.op
  have HRF : Hid (∀ w, Calls Tryd.prog 10 #[inV i] w fun e w' => e = .returned (inV i) ∧ Below w.heap.size w w') := fun w => ref_ok w i
  have HRX : Hid (∀ w, Calls Tryd.prog 10 #[inV (atI l p)] w fun e w' => e = .returned (inV (atI l p)) ∧ Below w.heap.size w w') := fun w => ref_ok w _
  have HS : Hid (∀ w, Tab w → Calls Tryd.prog 15 #[] w fun e w' => e = .returned (.bool true) ∧ Below w.heap.size w w') := fun w ht => set_ok w ht
  have hq := eqlR (atI l p)
  clear ht hl
  generalize (⟨(btS i).toArray⟩ : ByteArray) = B at *
  generalize btE i = E0 at *
  generalize szI i.op = Z at *
  generalize (⟨l.toArray⟩ : ByteArray) = L at *
  generalize atN l p = M at *
  generalize atE l p = E at *
  generalize atI l p = x at *
  obtain ⟨xo, xa, xb, xn⟩ := x
  obtain ⟨op, a, b, n⟩ := i
  simp only at HZ1 HZ2
  go_enter Tryd.func3, Tryd.ntmps3
  go_wp2_with fail
  refine (H1.out _ (HT.out.alloc _)).mono ?_
  rintro e w1 ⟨rfl, hb1⟩
  have HBX1 : Hid (Below (w.heap.size + 1) (w.alloc (.cells #[i64 op, i64 a, i64 b, i64 n] 23)) w1) := hb1.mono (by simp)
  have HB1 : Hid (Below w.heap.size w w1) := (below_one w _).trans (hb1.mono (by simp))
  have hz1 : w.heap.size < w1.heap.size := by have := hb1.size; simp at this; omega
  obtain ⟨q0, q1, q2, q3⟩ := four_at (w := w) (H := w.heap.size) rfl (i64 op) (i64 a) (i64 b) (i64 n) 23 w1 HBX1.out
  clear hb1
  go_wp2_with fail
  refine (HRF.out _).mono ?_
  rintro e w2 ⟨rfl, hb2⟩
  have HBX2 : Hid (Below (w.heap.size + 1) (w.alloc (.cells #[i64 op, i64 a, i64 b, i64 n] 23)) w2) := HBX1.out.trans (hb2.mono (by omega))
  have HB2 : Hid (Below w.heap.size w w2) := HB1.out.trans (hb2.mono (by omega))
  have hz2 : w.heap.size < w2.heap.size := by have := hb2.size; omega
  clear hb2 q0 q1 q2 q3
  go_wp2_with fail
  refine (H2.out _).mono ?_
  rintro e w3 ⟨rfl, hb3⟩
  have HBX3 : Hid (Below (w.heap.size + 1) (w.alloc (.cells #[i64 op, i64 a, i64 b, i64 n] 23)) w3) := HBX2.out.trans (hb3.mono (by omega))
  have HB3 : Hid (Below w.heap.size w w3) := HB2.out.trans (hb3.mono (by omega))
  have hz3 : w.heap.size < w3.heap.size := by have := hb3.size; omega
  clear hb3
  go_wp2_with fail
  refine (H3.out _ (HT.out.below HB3.out)).mono ?_
  rintro e w4 ⟨rfl, hb4⟩
  have HBX4 : Hid (Below (w.heap.size + 1) (w.alloc (.cells #[i64 op, i64 a, i64 b, i64 n] 23)) w4) := HBX3.out.trans (hb4.mono (by omega))
  have HB4 : Hid (Below w.heap.size w w4) := HB3.out.trans (hb4.mono (by omega))
  have hz4 : w.heap.size < w4.heap.size := by have := hb4.size; omega
  clear hb4
  go_wp2_with fail
  refine (H4.out _).mono ?_
  rintro e w5 ⟨rfl, hb5⟩
  have hz5 : w4.heap.size < w5.heap.size := by have := hb5.size; simp at this; omega
  have hb6 := below_one w5 (.cells #[i64 xo, i64 xa, i64 xb, i64 xn, i64 M, i64 E] 34)
  have hc := four_at (w := w4) (H := w4.heap.size) rfl (i64 xo) (i64 xa) (i64 xb) (i64 xn) 23 (w5.alloc (.cells #[i64 xo, i64 xa, i64 xb, i64 xn, i64 M, i64 E] 34)) ((hb5.mono (by simp)).trans (hb6.mono (by omega)))
  have hg := (six_at (w := w5.alloc (.cells #[i64 xo, i64 xa, i64 xb, i64 xn, i64 M, i64 E] 34)) (H := w5.heap.size) (i64 xo) (i64 xa) (i64 xb) (i64 xn) (i64 M) (i64 E) 34 (heap_at rfl _)).1
  have hbx : Below (w.heap.size + 1) (w.alloc (.cells #[i64 op, i64 a, i64 b, i64 n] 23)) (w5.alloc (.cells #[i64 xo, i64 xa, i64 xb, i64 xn, i64 M, i64 E] 34)) := ((HBX4.out.alloc (by omega) _).trans (hb5.mono (by simp; omega))).trans (hb6.mono (by omega))
  have hi := (four_at (w := w) (H := w.heap.size) rfl (i64 op) (i64 a) (i64 b) (i64 n) 23 _ hbx).1
  have hbw : Below w.heap.size w (w5.alloc (.cells #[i64 xo, i64 xa, i64 xb, i64 xn, i64 M, i64 E] 34)) := ((HB4.out.alloc (by omega) _).trans (hb5.mono (by simp; omega))).trans (hb6.mono (by omega))
  have hzV : (w5.alloc (.cells #[i64 xo, i64 xa, i64 xb, i64 xn, i64 M, i64 E] 34)).heap.size = w5.heap.size + 1 := by simp
  clear hb5 hb6 hbx
  go_wp2_with fail
  generalize w5.alloc (.cells #[i64 xo, i64 xa, i64 xb, i64 xn, i64 M, i64 E] 34) = V at *
  have HBV : Hid (Below w.heap.size w V) := hbw
  have hX : w4.heap.size < V.heap.size := by omega
  have hG : w5.heap.size < V.heap.size := by omega
  have hI : w.heap.size < V.heap.size := by omega
  generalize w4.heap.size = X at *
  generalize w5.heap.size = G at *
  have HUP : Hid (∀ U, Below V.heap.size V U → (U.cell? ⟨X, 0, none⟩ = some (i64 xo) ∧ U.cell? ⟨X, 1, none⟩ = some (i64 xa) ∧ U.cell? ⟨X, 2, none⟩ = some (i64 xb) ∧ U.cell? ⟨X, 3, none⟩ = some (i64 xn) ∧ U.cell? ⟨G, 0, none⟩ = some (i64 xo) ∧ U.cell? ⟨G, 1, none⟩ = some (i64 xa) ∧ U.cell? ⟨G, 2, none⟩ = some (i64 xb) ∧ U.cell? ⟨G, 3, none⟩ = some (i64 xn) ∧ U.cell? ⟨G, 4, none⟩ = some (i64 M) ∧ U.cell? ⟨G, 5, none⟩ = some (i64 E) ∧ U.cell? ⟨w.heap.size, 0, none⟩ = some (i64 op))) := fun U hU => by
    have hcell : ∀ (b o : Nat), b < V.heap.size → U.cell? ⟨b, o, none⟩ = V.cell? ⟨b, o, none⟩ := fun b o hb => hU.cell (by exact hb)
    rw [hcell _ _ hX, hcell _ _ hX, hcell _ _ hX, hcell _ _ hX, hcell _ _ hG, hcell _ _ hG, hcell _ _ hG, hcell _ _ hG, hcell _ _ hG, hcell _ _ hG, hcell _ _ hI]
    exact ⟨hc.1, hc.2.1, hc.2.2.1, hc.2.2.2, hg.1, hg.2.1, hg.2.2.1, hg.2.2.2.1, hg.2.2.2.2.1, hg.2.2.2.2.2, hi⟩
  have HV0 : Hid (Below V.heap.size V V) := Below.refl _ _
  have HV1 : Hid (Below V.heap.size V V.drew) := ⟨rfl, rfl, rfl, Nat.le_refl _, fun _ _ => rfl⟩
  have HTV : Hid (Tab V) := HT.out.below hbw
  have hVw := hbw.size
  obtain ⟨x0, x1, x2, x3⟩ := hc
  obtain ⟨g0, g1, g2, g3, g4, g5⟩ := hg
  clear hbw hzV hz1 hz2 hz3 hz4 hz5
  go_region_held3 (fun w' => (w'.cell? ⟨X, 0, none⟩ = some (i64 xo) ∧ w'.cell? ⟨X, 1, none⟩ = some (i64 xa) ∧ w'.cell? ⟨X, 2, none⟩ = some (i64 xb) ∧ w'.cell? ⟨X, 3, none⟩ = some (i64 xn) ∧ w'.cell? ⟨G, 0, none⟩ = some (i64 xo) ∧ w'.cell? ⟨G, 1, none⟩ = some (i64 xa) ∧ w'.cell? ⟨G, 2, none⟩ = some (i64 xb) ∧ w'.cell? ⟨G, 3, none⟩ = some (i64 xn) ∧ w'.cell? ⟨G, 4, none⟩ = some (i64 M) ∧ w'.cell? ⟨G, 5, none⟩ = some (i64 E) ∧ w'.cell? ⟨w.heap.size, 0, none⟩ = some (i64 op))) (first | exact HUP.out _ HV1.out | exact HUP.out _ HV0.out | exact HUP.out _ HV2.out | exact HUP.out _ HV3.out) ((first | (go_at_call 10; refine (HRX.out _).mono ?_; rintro e w6 ⟨rfl, hb6⟩; have HV2 : Hid (Below V.heap.size V w6) := HV1.out.trans (hb6.mono (Nat.le_refl _)); clear hb6) | (go_at_call 13; refine (HZ1.out _ (HTV.out.below HV2.out)).mono ?_; rintro e w7 ⟨rfl, rfl⟩) | (go_at_call 14; refine (HZ2.out _).mono ?_; rintro e w7 ⟨rfl, rfl⟩) | (go_at_call 15; refine (HS.out _ (HTV.out.below HV2.out)).mono ?_; rintro e w8 ⟨rfl, hb8⟩; have HV3 : Hid (Below V.heap.size V w8) := HV2.out.trans (hb8.mono HV2.out.size); clear hb8)))
  go_wp2_with fail
  go_ret
  exact ⟨rfl, HBV.out.trans (HV3.out.mono hVw)⟩
theorem insts_any (w : World) (ht : Tab w) (i : In) (s : ByteArray) (hs : s.size ≤ maxLen) (p : Int) : Calls Tryd.prog 3 #[inV i, .string s, i64 p] w fun e w' => e = .returned (.bool true) ∧ Below w.heap.size w w' := by
  have := insts_walk w ht i s.data.toList (by rw [Array.length_toList]; exact hs) p
  exact this
end Go.Proofs.YtlofpamfodinfaaDoor
