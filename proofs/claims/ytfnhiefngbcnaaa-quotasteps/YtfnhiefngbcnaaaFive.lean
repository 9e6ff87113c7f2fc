/- Arrays held against one another; imagolaw10.five; no statement is proved in this text. -/
import Derived.Test.YtfnhiefngbcnaaaOpen2
import Derived.ChangeKeysEq
namespace Go.Proofs.Ytfnhiefngbcnaaa
open Go.ChangeShapes Go.WideShapes Go.ChangeAt Go.RowKit Go.Deep

theorem plain3 : Try.prog.plainKey 3 = true := by kernel_rfl
theorem cells3 : Try.prog.cellsOf 3 = 1 := by kernel_rfl
theorem eqIn22 (d : Nat) (t u : T) (w : World) : (Op.equalIn (d + 2) 22 t.v u.v).run Try.prog w = .ok (decide (t = u)) w := by
  obtain ⟨i, hi⟩ := info_of_underlying Try.underlying3
  rw [run_equalIn_array w (d + 1) _ _ Try.underlying22 hi, cells3]
  have p0 : ∀ (x y z : Int) (w : World), (part 3 #[i64 x, i64 y, i64 z] 0).run Try.prog w = .ok (i64 x) w := fun x y z w => by kernel_rfl
  have p1 : ∀ (x y z : Int) (w : World), (part 3 #[i64 x, i64 y, i64 z] 1).run Try.prog w = .ok (i64 y) w := fun x y z w => by kernel_rfl
  have p2 : ∀ (x y z : Int) (w : World), (part 3 #[i64 x, i64 y, i64 z] 2).run Try.prog w = .ok (i64 z) w := fun x y z w => by kernel_rfl
  have hq : ∀ (x y : Int) (w : World), (Op.equalIn (d + 1) 3 (i64 x) (i64 y)).run Try.prog w = .ok (x == y) w := fun x y w => run_equalIn_int w d 3 .i64 .i64 x y Try.underlying3
  rcases t with ⟨a1, a2, a3⟩
  rcases u with ⟨b1, b2, b3⟩
  have hr : List.range 3 = [0, 1, 2] := rfl
  rw [hr]
  by_cases h1 : a1 = b1 <;> by_cases h2 : a2 = b2 <;> by_cases h3 : a3 = b3 <;> simp [Op.eqItems, p0, p1, p2, hq, h1, h2, h3, Result.andThen]
theorem eql22 (t u : T) (w : World) : (binOp .eql 22 t.v u.v).run Try.prog w = .ok (.bool (decide (t = u))) w := by
  rw [run_eql_struct, eqIn22 9998 t u w]
  rfl
theorem neq22 (t u : T) (w : World) : (binOp .neq 22 t.v u.v).run Try.prog w = .ok (.bool (!decide (t = u))) w := by
  rw [run_neq_struct, eqIn22 9998 t u w]
  rfl
set_option maxRecDepth 100000 in
set_option maxHeartbeats 2000000 in
theorem five_ok (w : World) : Calls Try.prog 10 #[] w fun e w' => e = .returned (.bool true) ∧ Below w.heap.size w w' := by
  have hq : ∀ W, (binOp .eql 22 (T.v ⟨3, 8, 4⟩) (T.v ⟨3, 8, 4⟩)).run Try.prog W = .ok (.bool true) W := fun W => eql22 ⟨3, 8, 4⟩ ⟨3, 8, 4⟩ W
  go_enter Try.func10, Try.ntmps10
  go_wp2_with fail
  refine (new_ok w ⟨8, 8, 4⟩ (by decide)).mono ?_
  rintro e w1 ⟨rfl, hb1, hk1, hz1⟩
  have HK1 : Hid (Bk w1 w.heap.size (w.heap.size + 1) ⟨8, 8, 4⟩ (fun _ => none)) := hk1
  have HB1 : Hid (Below w.heap.size w w1) := hb1
  clear hb1 hk1
  go_wp2_with fail
  refine (open_ok HK1.out 1 ⟨5, 5, 2⟩).mono ?_
  rintro e w2 ⟨rfl, s2, hs2, hk2, hf2⟩
  obtain ⟨p, rfl⟩ : ∃ p, s2 = upd (fun _ => none) 0 (some ⟨p, ⟨5, 5, 2⟩, zT⟩) := hs2
  have hE2 : opE ⟨8, 8, 4⟩ (fun _ => none) 1 ⟨5, 5, 2⟩ = 0 := by rfl
  rw [hE2]
  have HK2 : Hid (Bk w2 w.heap.size (w.heap.size + 1) ⟨8, 8, 4⟩ (upd (fun _ => none) 0 (some ⟨p, ⟨5, 5, 2⟩, zT⟩))) := hk2
  have HB2 : Hid (Below w.heap.size w w2) := HB1.out.trans hf2.below
  clear hk2 hf2 hE2
  go_wp2_with fail
  refine (open_ok HK2.out 2 ⟨4, 1, 1⟩).mono ?_
  rintro e w3 ⟨rfl, s3, hs3, hk3, hf3⟩
  obtain rfl : s3 = upd (fun _ => none) 0 (some ⟨p, ⟨5, 5, 2⟩, zT⟩) := hs3
  have hE3 : opE ⟨8, 8, 4⟩ (upd (fun _ => none) 0 (some ⟨p, ⟨5, 5, 2⟩, zT⟩)) 2 ⟨4, 1, 1⟩ = 5 := by rfl
  rw [hE3]
  have HK3 : Hid (Bk w3 w.heap.size (w.heap.size + 1) ⟨8, 8, 4⟩ (upd (fun _ => none) 0 (some ⟨p, ⟨5, 5, 2⟩, zT⟩))) := hk3
  have HB3 : Hid (Below w.heap.size w w3) := HB2.out.trans hf3.below
  clear hk3 hf3 hE3
  go_wp2_with fail
  refine (take_ok HK3.out 1 1 5 (by decide)).mono ?_
  rintro e w4 ⟨rfl, hk4, hf4⟩
  have hE4 : tkE (at_ (upd (fun _ => none) 0 (some ⟨p, ⟨5, 5, 2⟩, zT⟩)) 1) 1 5 = 0 := by rfl
  rw [hE4]
  have HK4 : Hid (Bk w4 w.heap.size (w.heap.size + 1) ⟨8, 8, 4⟩ (tkS (upd (fun _ => none) 0 (some ⟨p, ⟨5, 5, 2⟩, zT⟩)) 1 1 5)) := hk4
  have HB4 : Hid (Below w.heap.size w w4) := HB3.out.trans hf4.below
  clear hk4 hf4 hE4
  go_wp2_with fail
  refine (take_ok HK4.out 1 1 1 (by decide)).mono ?_
  rintro e w5 ⟨rfl, hk5, hf5⟩
  have hE5 : tkE (at_ (tkS (upd (fun _ => none) 0 (some ⟨p, ⟨5, 5, 2⟩, zT⟩)) 1 1 5) 1) 1 1 = 100 := by rfl
  rw [hE5]
  have HK5 : Hid (Bk w5 w.heap.size (w.heap.size + 1) ⟨8, 8, 4⟩ (tkS (tkS (upd (fun _ => none) 0 (some ⟨p, ⟨5, 5, 2⟩, zT⟩)) 1 1 5) 1 1 1)) := hk5
  have HB5 : Hid (Below w.heap.size w w5) := HB4.out.trans hf5.below
  have HF : Hid (freeT ⟨8, 8, 4⟩ (tkS (tkS (upd (fun _ => none) 0 (some ⟨p, ⟨5, 5, 2⟩, zT⟩)) 1 1 5) 1 1 1) = ⟨3, 8, 4⟩) := rfl
  clear hk5 hf5 hE5
  go_wp2_with fail
  refine (free_ok HK5.out).mono ?_
  rintro e w6 ⟨rfl, hb6⟩
  rw [HF.out]
  have HB6 : Hid (Below w.heap.size w w6) := HB5.out.trans (hb6.mono HB5.out.size)
  clear hb6
  go_wp2_with fail
  go_ret
  exact ⟨rfl, HB6.out⟩
end Go.Proofs.Ytfnhiefngbcnaaa
