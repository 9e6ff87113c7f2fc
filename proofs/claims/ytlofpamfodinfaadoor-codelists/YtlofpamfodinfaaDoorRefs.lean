/- The law's ref, refs and same: their contracts; no statement is proved in this text. -/
import Derived.Test.YtlofpamfodinfaaDoorBackWalk
namespace Go.Proofs.YtlofpamfodinfaaDoor
open Go.ChangeShapes Go.WideShapes Go.ChangeAt Go.RowKit

set_option maxHeartbeats 400000 in
theorem ref_ok (w : World) (i : In) : Calls Tryd.prog 10 #[inV i] w fun e w' => e = .returned (inV i) ∧ Below w.heap.size w w' := by
  obtain ⟨op, a, b, n⟩ := i
  go_enter Tryd.func10, Tryd.ntmps10
  go_wp2_with fail
  exact bodyPost_ret (v := inV ⟨op, a, b, n⟩) (by simp [results, Tryd.results10, go_sem]) rfl ⟨rfl, (below_one w _).alloc (by simp) _⟩

set_option maxHeartbeats 1600000 in
theorem refs_ok (w : World) (xs : List In) (ao : Option Addr) (cap : Nat) (hs : ISl w ao xs) (hl : xs.length ≤ 1000) :
    Calls Tryd.prog 20 #[.slice ao xs.length cap] w fun e w' => ∃ v, e = .returned v ∧ w'.ownsRow w.heap.size 29 4 v xs.length (icells xs) ∧ Below w.heap.size w w' := by
  have HS : Hid (ISl w ao xs) := hs
  obtain ⟨N, hN⟩ : ∃ N, xs.length = N := ⟨_, rfl⟩
  have HN : Hid (xs.length = N) := hN
  rw [hN] at hl ⊢
  clear hs hN
  go_enter Tryd.func20, Tryd.ntmps20
  go_wp2_with fail
  go_loopw [3, 8] (fun v i wr => ∃ (k : Nat), i = i64 k ∧ k ≤ N ∧ wr.ownsRow w.heap.size 29 4 v k (icells (xs.take k)) ∧ Below w.heap.size w wr) (fun _ i _ => N - (intOf i).toNat)
  case atStart => exact ⟨0, rfl, by omega, World.ownsRow_nil _ _ _ _, Below.refl _ _⟩
  case round =>
    obtain ⟨k, rfl, hk, ho, hb⟩ := hrel
    have HO : Hid (wr.ownsRow w.heap.size 29 4 u3 k (icells (xs.take k))) := ho
    have HB : Hid (Below w.heap.size w wr) := hb
    have hz := hb.size
    by_cases hkN : k < N
    · have hkx : k < xs.length := by rw [HN.out]; exact hkN
      obtain ⟨b, off, rfl, hbl, c0, c1, c2, c3⟩ := (HS.out.below hb).at hkx
      have HX : Hid (xs.take (k + 1) = xs.take k ++ [xs[k]]) := (List.take_append_getElem hkx).symm
      clear ho hb
      generalize xs[k] = q at *
      obtain ⟨op, a, b2, n⟩ := q
      go_wp2_with (first | (go_at_call 10; refine (ref_ok _ ⟨op, a, b2, n⟩).mono ?_; rintro e w1 ⟨rfl, hb1⟩; have HB1 : Hid (Below w.heap.size w w1) := (HB.out.alloc hz _).trans (hb1.mono (by simp <;> omega)); have HO1 : Hid (w1.ownsRow w.heap.size 29 4 u3 k (icells (xs.take k))) := own_below (HO.out.alloc _) hb1; have hz1 := HB1.out.size; clear hb1) | (at_builtin; refine app42 rfl (.tmp 12) (.tmp 15) rfl w.heap.size _ k _ rfl (HO1.out.alloc _) _ _ ⟨op, a, b2, n⟩ rfl (new_four (by simp) _ _) (by omega) (by simp <;> omega) ?_; intro v2 w2 ho2 hb2; have HB2 : Hid (Below w.heap.size w w2) := (HB1.out.alloc (by omega) _).trans hb2; have HO2 : Hid (w2.ownsRow w.heap.size 29 4 v2 (k + 1) (icells (xs.take k ++ [⟨op, a, b2, n⟩]))) := ho2; clear ho2 hb2))
      exact ⟨⟨k + 1, by go_num, by omega, by rw [HX.out]; exact HO2.out, HB2.out⟩, by simp [intOf]; omega⟩
    · obtain rfl : k = N := by omega
      have hall : xs.take k = xs := List.take_of_length_le (by rw [HN.out]; exact Nat.le_refl _)
      have HO2 : Hid (wr.ownsRow w.heap.size 29 4 u3 k (icells xs)) := (by rw [hall] at ho; exact ho : wr.ownsRow w.heap.size 29 4 u3 k (icells xs))
      clear ho hb hall
      go_wp2_with fail
      go_ret
      exact ⟨_, rfl, HO2.out, HB.out⟩

theorem neqI (a : In) (w : World) : (binOp .neq 29 (inV a) (inV a)).run Tryd.prog w = .ok (.bool false) w := by
  obtain ⟨a1, a2, a3, a4⟩ := a
  rw [run_neq_struct, run_equalIn_struct w 9999 29 _ _ (by kernel_rfl) (by kernel_rfl)]
  have p0 : ∀ (x y z u : Int) (w : World), (part 3 #[i64 x, i64 y, i64 z, i64 u] 0).run Tryd.prog w = .ok (i64 x) w := fun x y z u w => by kernel_rfl
  have p1 : ∀ (x y z u : Int) (w : World), (part 3 #[i64 x, i64 y, i64 z, i64 u] 1).run Tryd.prog w = .ok (i64 y) w := fun x y z u w => by kernel_rfl
  have p2 : ∀ (x y z u : Int) (w : World), (part 3 #[i64 x, i64 y, i64 z, i64 u] 2).run Tryd.prog w = .ok (i64 z) w := fun x y z u w => by kernel_rfl
  have p3 : ∀ (x y z u : Int) (w : World), (part 3 #[i64 x, i64 y, i64 z, i64 u] 3).run Tryd.prog w = .ok (i64 u) w := fun x y z u w => by kernel_rfl
  have hq := eqIntE 9998
  simp only [Program.fieldsOf, Tryd.underlying29]
  simp [Op.eqFields, p0, p1, p2, p3, hq, Result.andThen]

set_option maxHeartbeats 1600000 in
theorem same_ok (w : World) (xs : List In) (ao bo : Option Addr) (c1 c2 : Nat) (hs : ISl w ao xs) (ht : ISl w bo xs) (hl : xs.length ≤ 1000) :
    Calls Tryd.prog 21 #[.slice ao xs.length c1, .slice bo xs.length c2] w fun e w' => e = .returned (.bool true) ∧ ∃ n, w' = w.drewN n := by
  have HS : Hid (ISl w ao xs) := hs
  have HT : Hid (ISl w bo xs) := ht
  obtain ⟨N, hN⟩ : ∃ N, xs.length = N := ⟨_, rfl⟩
  have HN : Hid (xs.length = N) := hN
  rw [hN] at hl ⊢
  clear hs ht hN
  go_enter Tryd.func21, Tryd.ntmps21
  go_wp2_with fail
  go_loopw [8] (fun i wr => ∃ (k n : Nat), i = i64 k ∧ k ≤ N ∧ wr = w.drewN n) (fun i _ => N - (intOf i).toNat)
  case atStart => exact ⟨0, 0, rfl, by omega, rfl⟩
  case round =>
    obtain ⟨k, n, rfl, hk, rfl⟩ := hrel
    by_cases hkN : k < N
    · have hkx : k < xs.length := by rw [HN.out]; exact hkN
      obtain ⟨b, off, rfl, hbl, c0, c1, c2, c3⟩ := HS.out.at hkx
      obtain ⟨d, oft, rfl, hdl, d0, d1, d2, d3⟩ := HT.out.at hkx
      have hq := neqI xs[k]
      have hg : decide ((N : Int) ≤ (k : Int)) = false := by simp; omega
      have hI : (k : Int) < N := by omega
      generalize xs[k] = q at *
      obtain ⟨op, a, b2, m⟩ := q
      go_wp2_with fail
      go_quiet (fail)
      go_wp2_with fail
      exact ⟨⟨k + 1, _, by go_num, by omega, rfl⟩, by simp [intOf]; omega⟩
    · obtain rfl : k = N := by omega
      go_wp2_with fail
      go_ret
      exact ⟨rfl, n, rfl⟩
end Go.Proofs.YtlofpamfodinfaaDoor
