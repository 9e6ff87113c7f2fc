/- QuotaBack's walk where what was taken is given back; no statement is proved in this text. -/
import Derived.Test.YtfnhiefngbcnaaaBackWalk
namespace Go.Proofs.Ytfnhiefngbcnaaa
open Go.ChangeShapes Go.WideShapes Go.ChangeAt Go.RowKit Go.Deep

set_option maxRecDepth 100000 in
set_option maxHeartbeats 2000000 in
theorem back_in1 (w : World) (q : T) (n : Int) (h0 : 0 ≤ n) (hm : n ≤ 9223372036854775807) (hE : opE ⟨64, 64, 64⟩ non 2 q = 0) (hn : n ≤ q.a) :
    Calls Try.prog 6 #[q.v, i64 1, i64 n] w fun e w' => e = .returned (.bool true) ∧ Below w.heap.size w w' := by
  have hq : ∀ W, (binOp .eql 22 (T.v zT) (T.v ⟨0, 0, 0⟩)).run Try.prog W = .ok (.bool true) W := fun W => eql22 zT ⟨0, 0, 0⟩ W
  obtain ⟨V, hV⟩ : ∃ V, V = w.alloc (triO q) := ⟨_, rfl⟩
  have HV : Hid (V = w.alloc (triO q)) := hV
  have HQ0 : Hid (V.heap[w.heap.size]? = some (triO q)) := by rw [hV]; exact heap_last w _
  have HB0 : Hid (Below w.heap.size w V) := by rw [hV]; exact (Below.refl _ _).alloc (Nat.le_refl _) _
  have HE : Hid (opE ⟨64, 64, 64⟩ non 2 q = 0) := hE
  have hw : wrongB 1 n = false := by unfold wrongB; simp; omega
  have HT : Hid (∀ p : Nat, tkE (some ⟨p, q, zT⟩) 1 n = 0 ∧ tkS (one p q zT) 2 1 n = one p q ⟨n, 0, 0⟩) := fun p => by
    have := tk_one (p := p) (q := q) (h := zT) hw (by simp [T.g, zT]; omega)
    have he : zT.put 1 (zT.g 1 + n) = ⟨n, 0, 0⟩ := by simp [T.put, T.g, zT]
    rw [he] at this
    exact this
  have HG : Hid (∀ p : Nat, gvE (some ⟨p, q, ⟨n, 0, 0⟩⟩) 1 n = 0 ∧ gvS (one p q ⟨n, 0, 0⟩) 2 1 n = one p q zT) := fun p => by
    have := gv_one (p := p) (q := q) (h := ⟨n, 0, 0⟩) hw (by simp [T.g])
    have he : T.put ⟨n, 0, 0⟩ 1 (T.g ⟨n, 0, 0⟩ 1 - n) = zT := by simp [T.put, T.g, zT]
    rw [he] at this
    exact this
  have HA : Hid (∀ (p : Nat) (h : T), at_ (one p q h) 2 = some ⟨p, q, h⟩) := fun _ _ => rfl
  clear hw
  clear hV hE hn
  go_enter Try.func6, Try.ntmps6
  go_wp2_with fail
  rw [show w.alloc (Obj.cells #[i64 q.a, i64 q.b, i64 q.c] 22) = V from HV.out.symm]
  refine (new_ok V ⟨64, 64, 64⟩ (by decide)).mono ?_
  rintro e w1 ⟨rfl, hb1, hk1, hz1⟩
  have HK1 : Hid (Bk w1 V.heap.size (V.heap.size + 1) ⟨64, 64, 64⟩ non) := hk1
  have HB1 : Hid (Below w.heap.size w w1) := HB0.out.trans (hb1.mono HB0.out.size)
  have hq1 := blk_below HQ0.out hb1
  have c0 : w1.cell? ⟨w.heap.size, 0, none⟩ = some (i64 q.a) := blk_cell hq1 0
  have c1 : w1.cell? ⟨w.heap.size, 1, none⟩ = some (i64 q.b) := blk_cell hq1 1
  have c2 : w1.cell? ⟨w.heap.size, 2, none⟩ = some (i64 q.c) := blk_cell hq1 2
  clear hb1 hk1 hq1
  go_wp2_with fail
  refine (open_ok HK1.out 2 q).mono ?_
  rintro e w2 ⟨rfl, s2, hs2, hk2, hf2⟩
  obtain ⟨p, hs2'⟩ : ∃ p, s2 = one p q zT := by unfold OpS at hs2; rw [HE.out] at hs2; exact hs2
  subst hs2'
  rw [HE.out]
  have HK2 : Hid (Bk w2 V.heap.size (V.heap.size + 1) ⟨64, 64, 64⟩ (one p q zT)) := hk2
  have HB2 : Hid (Below w.heap.size w w2) := HB1.out.trans (hf2.below.mono HB0.out.size)
  clear hk2 hf2 hs2
  go_wp2_with fail
  refine (take_ok HK2.out 2 1 n hm).mono ?_
  rintro e w3 ⟨rfl, hk3, hf3⟩
  rw [HA.out, (HT.out p).1]
  rw [(HT.out p).2] at hk3
  have HK3 : Hid (Bk w3 V.heap.size (V.heap.size + 1) ⟨64, 64, 64⟩ (one p q ⟨n, 0, 0⟩)) := hk3
  have HB3 : Hid (Below w.heap.size w w3) := HB2.out.trans (hf3.below.mono HB0.out.size)
  clear hk3 hf3
  go_wp2_with fail
  refine (has_ok HK3.out 2).mono ?_
  rintro e w4 ⟨rfl, hb4⟩
  rw [HA.out]
  have HB4 : Hid (Below w.heap.size w w4) := HB3.out.trans (hb4.mono HB3.out.size)
  have HK4 : Hid (∀ o, Bk (w4.alloc o) V.heap.size (V.heap.size + 1) ⟨64, 64, 64⟩ (one p q ⟨n, 0, 0⟩)) := fun o => (HK3.out.below hb4).below ((Below.refl _ _).alloc (Nat.le_refl _) _)
  clear hb4
  unfold hT pE
  go_wp2_with fail
  refine (give_ok (HK4.out _) 2 1 n hm).mono ?_
  rintro e w5 ⟨rfl, hk5, hf5⟩
  rw [HA.out, (HG.out p).1]
  rw [(HG.out p).2] at hk5
  have HK5 : Hid (Bk w5 V.heap.size (V.heap.size + 1) ⟨64, 64, 64⟩ (one p q zT)) := hk5
  have HB5 : Hid (Below w.heap.size w w5) := (HB4.out.alloc HB4.out.size _).trans (hf5.below.mono HB0.out.size)
  clear hk5 hf5
  go_wp2_with fail
  refine (has_ok HK5.out 2).mono ?_
  rintro e w6 ⟨rfl, hb6⟩
  rw [HA.out]
  have HB6 : Hid (Below w.heap.size w w6) := HB5.out.trans (hb6.mono HB5.out.size)
  have HK6 : Hid (∀ o, Bk (w6.alloc o) V.heap.size (V.heap.size + 1) ⟨64, 64, 64⟩ (one p q zT)) := fun o => (HK5.out.below hb6).below ((Below.refl _ _).alloc (Nat.le_refl _) _)
  clear hb6
  unfold hT pE
  go_wp2_with fail
  refine (close_ok (HK6.out _) 2).mono ?_
  rintro e w7 ⟨rfl, hk7, hf7⟩
  rw [HA.out]
  rw [cl_one] at hk7
  have HK7 : Hid (Bk w7 V.heap.size (V.heap.size + 1) ⟨64, 64, 64⟩ non) := hk7
  have HB7 : Hid (Below w.heap.size w w7) := (HB6.out.alloc HB6.out.size _).trans (hf7.below.mono HB0.out.size)
  clear hk7 hf7
  unfold clE pE
  go_wp2_with fail
  refine (close_ok HK7.out 2).mono ?_
  rintro e w8 ⟨rfl, hk8, hf8⟩
  have HN : Hid (clE (at_ non 2) = 6) := rfl
  rw [HN.out]
  have HB8 : Hid (Below w.heap.size w w8) := HB7.out.trans (hf8.below.mono HB0.out.size)
  clear hk8 hf8
  go_wp2_with fail
  refine (five_ok _).mono ?_
  rintro e w9 ⟨rfl, hb9⟩
  have HB9 : Hid (Below w.heap.size w w9) := HB8.out.trans (hb9.mono HB8.out.size)
  clear hb9
  go_wp2_with fail
  go_ret
  exact ⟨rfl, HB9.out⟩
set_option maxRecDepth 100000 in
set_option maxHeartbeats 2000000 in
theorem back_in2 (w : World) (q : T) (n : Int) (h0 : 0 ≤ n) (hm : n ≤ 9223372036854775807) (hE : opE ⟨64, 64, 64⟩ non 2 q = 0) (hn : n ≤ q.b) :
    Calls Try.prog 6 #[q.v, i64 2, i64 n] w fun e w' => e = .returned (.bool true) ∧ Below w.heap.size w w' := by
  have hq : ∀ W, (binOp .eql 22 (T.v zT) (T.v ⟨0, 0, 0⟩)).run Try.prog W = .ok (.bool true) W := fun W => eql22 zT ⟨0, 0, 0⟩ W
  obtain ⟨V, hV⟩ : ∃ V, V = w.alloc (triO q) := ⟨_, rfl⟩
  have HV : Hid (V = w.alloc (triO q)) := hV
  have HQ0 : Hid (V.heap[w.heap.size]? = some (triO q)) := by rw [hV]; exact heap_last w _
  have HB0 : Hid (Below w.heap.size w V) := by rw [hV]; exact (Below.refl _ _).alloc (Nat.le_refl _) _
  have HE : Hid (opE ⟨64, 64, 64⟩ non 2 q = 0) := hE
  have hw : wrongB 2 n = false := by unfold wrongB; simp; omega
  have HT : Hid (∀ p : Nat, tkE (some ⟨p, q, zT⟩) 2 n = 0 ∧ tkS (one p q zT) 2 2 n = one p q ⟨0, n, 0⟩) := fun p => by
    have := tk_one (p := p) (q := q) (h := zT) hw (by simp [T.g, zT]; omega)
    have he : zT.put 2 (zT.g 2 + n) = ⟨0, n, 0⟩ := by simp [T.put, T.g, zT]
    rw [he] at this
    exact this
  have HG : Hid (∀ p : Nat, gvE (some ⟨p, q, ⟨0, n, 0⟩⟩) 2 n = 0 ∧ gvS (one p q ⟨0, n, 0⟩) 2 2 n = one p q zT) := fun p => by
    have := gv_one (p := p) (q := q) (h := ⟨0, n, 0⟩) hw (by simp [T.g])
    have he : T.put ⟨0, n, 0⟩ 2 (T.g ⟨0, n, 0⟩ 2 - n) = zT := by simp [T.put, T.g, zT]
    rw [he] at this
    exact this
  have HA : Hid (∀ (p : Nat) (h : T), at_ (one p q h) 2 = some ⟨p, q, h⟩) := fun _ _ => rfl
  clear hw
  clear hV hE hn
  go_enter Try.func6, Try.ntmps6
  go_wp2_with fail
  rw [show w.alloc (Obj.cells #[i64 q.a, i64 q.b, i64 q.c] 22) = V from HV.out.symm]
  refine (new_ok V ⟨64, 64, 64⟩ (by decide)).mono ?_
  rintro e w1 ⟨rfl, hb1, hk1, hz1⟩
  have HK1 : Hid (Bk w1 V.heap.size (V.heap.size + 1) ⟨64, 64, 64⟩ non) := hk1
  have HB1 : Hid (Below w.heap.size w w1) := HB0.out.trans (hb1.mono HB0.out.size)
  have hq1 := blk_below HQ0.out hb1
  have c0 : w1.cell? ⟨w.heap.size, 0, none⟩ = some (i64 q.a) := blk_cell hq1 0
  have c1 : w1.cell? ⟨w.heap.size, 1, none⟩ = some (i64 q.b) := blk_cell hq1 1
  have c2 : w1.cell? ⟨w.heap.size, 2, none⟩ = some (i64 q.c) := blk_cell hq1 2
  clear hb1 hk1 hq1
  go_wp2_with fail
  refine (open_ok HK1.out 2 q).mono ?_
  rintro e w2 ⟨rfl, s2, hs2, hk2, hf2⟩
  obtain ⟨p, hs2'⟩ : ∃ p, s2 = one p q zT := by unfold OpS at hs2; rw [HE.out] at hs2; exact hs2
  subst hs2'
  rw [HE.out]
  have HK2 : Hid (Bk w2 V.heap.size (V.heap.size + 1) ⟨64, 64, 64⟩ (one p q zT)) := hk2
  have HB2 : Hid (Below w.heap.size w w2) := HB1.out.trans (hf2.below.mono HB0.out.size)
  clear hk2 hf2 hs2
  go_wp2_with fail
  refine (take_ok HK2.out 2 2 n hm).mono ?_
  rintro e w3 ⟨rfl, hk3, hf3⟩
  rw [HA.out, (HT.out p).1]
  rw [(HT.out p).2] at hk3
  have HK3 : Hid (Bk w3 V.heap.size (V.heap.size + 1) ⟨64, 64, 64⟩ (one p q ⟨0, n, 0⟩)) := hk3
  have HB3 : Hid (Below w.heap.size w w3) := HB2.out.trans (hf3.below.mono HB0.out.size)
  clear hk3 hf3
  go_wp2_with fail
  refine (has_ok HK3.out 2).mono ?_
  rintro e w4 ⟨rfl, hb4⟩
  rw [HA.out]
  have HB4 : Hid (Below w.heap.size w w4) := HB3.out.trans (hb4.mono HB3.out.size)
  have HK4 : Hid (∀ o, Bk (w4.alloc o) V.heap.size (V.heap.size + 1) ⟨64, 64, 64⟩ (one p q ⟨0, n, 0⟩)) := fun o => (HK3.out.below hb4).below ((Below.refl _ _).alloc (Nat.le_refl _) _)
  clear hb4
  unfold hT pE
  go_wp2_with fail
  refine (give_ok (HK4.out _) 2 2 n hm).mono ?_
  rintro e w5 ⟨rfl, hk5, hf5⟩
  rw [HA.out, (HG.out p).1]
  rw [(HG.out p).2] at hk5
  have HK5 : Hid (Bk w5 V.heap.size (V.heap.size + 1) ⟨64, 64, 64⟩ (one p q zT)) := hk5
  have HB5 : Hid (Below w.heap.size w w5) := (HB4.out.alloc HB4.out.size _).trans (hf5.below.mono HB0.out.size)
  clear hk5 hf5
  go_wp2_with fail
  refine (has_ok HK5.out 2).mono ?_
  rintro e w6 ⟨rfl, hb6⟩
  rw [HA.out]
  have HB6 : Hid (Below w.heap.size w w6) := HB5.out.trans (hb6.mono HB5.out.size)
  have HK6 : Hid (∀ o, Bk (w6.alloc o) V.heap.size (V.heap.size + 1) ⟨64, 64, 64⟩ (one p q zT)) := fun o => (HK5.out.below hb6).below ((Below.refl _ _).alloc (Nat.le_refl _) _)
  clear hb6
  unfold hT pE
  go_wp2_with fail
  refine (close_ok (HK6.out _) 2).mono ?_
  rintro e w7 ⟨rfl, hk7, hf7⟩
  rw [HA.out]
  rw [cl_one] at hk7
  have HK7 : Hid (Bk w7 V.heap.size (V.heap.size + 1) ⟨64, 64, 64⟩ non) := hk7
  have HB7 : Hid (Below w.heap.size w w7) := (HB6.out.alloc HB6.out.size _).trans (hf7.below.mono HB0.out.size)
  clear hk7 hf7
  unfold clE pE
  go_wp2_with fail
  refine (close_ok HK7.out 2).mono ?_
  rintro e w8 ⟨rfl, hk8, hf8⟩
  have HN : Hid (clE (at_ non 2) = 6) := rfl
  rw [HN.out]
  have HB8 : Hid (Below w.heap.size w w8) := HB7.out.trans (hf8.below.mono HB0.out.size)
  clear hk8 hf8
  go_wp2_with fail
  refine (five_ok _).mono ?_
  rintro e w9 ⟨rfl, hb9⟩
  have HB9 : Hid (Below w.heap.size w w9) := HB8.out.trans (hb9.mono HB8.out.size)
  clear hb9
  go_wp2_with fail
  go_ret
  exact ⟨rfl, HB9.out⟩
set_option maxRecDepth 100000 in
set_option maxHeartbeats 2000000 in
theorem back_in3 (w : World) (q : T) (n : Int) (h0 : 0 ≤ n) (hm : n ≤ 9223372036854775807) (hE : opE ⟨64, 64, 64⟩ non 2 q = 0) (hn : n ≤ q.c) :
    Calls Try.prog 6 #[q.v, i64 3, i64 n] w fun e w' => e = .returned (.bool true) ∧ Below w.heap.size w w' := by
  have hq : ∀ W, (binOp .eql 22 (T.v zT) (T.v ⟨0, 0, 0⟩)).run Try.prog W = .ok (.bool true) W := fun W => eql22 zT ⟨0, 0, 0⟩ W
  obtain ⟨V, hV⟩ : ∃ V, V = w.alloc (triO q) := ⟨_, rfl⟩
  have HV : Hid (V = w.alloc (triO q)) := hV
  have HQ0 : Hid (V.heap[w.heap.size]? = some (triO q)) := by rw [hV]; exact heap_last w _
  have HB0 : Hid (Below w.heap.size w V) := by rw [hV]; exact (Below.refl _ _).alloc (Nat.le_refl _) _
  have HE : Hid (opE ⟨64, 64, 64⟩ non 2 q = 0) := hE
  have hw : wrongB 3 n = false := by unfold wrongB; simp; omega
  have HT : Hid (∀ p : Nat, tkE (some ⟨p, q, zT⟩) 3 n = 0 ∧ tkS (one p q zT) 2 3 n = one p q ⟨0, 0, n⟩) := fun p => by
    have := tk_one (p := p) (q := q) (h := zT) hw (by simp [T.g, zT]; omega)
    have he : zT.put 3 (zT.g 3 + n) = ⟨0, 0, n⟩ := by simp [T.put, T.g, zT]
    rw [he] at this
    exact this
  have HG : Hid (∀ p : Nat, gvE (some ⟨p, q, ⟨0, 0, n⟩⟩) 3 n = 0 ∧ gvS (one p q ⟨0, 0, n⟩) 2 3 n = one p q zT) := fun p => by
    have := gv_one (p := p) (q := q) (h := ⟨0, 0, n⟩) hw (by simp [T.g])
    have he : T.put ⟨0, 0, n⟩ 3 (T.g ⟨0, 0, n⟩ 3 - n) = zT := by simp [T.put, T.g, zT]
    rw [he] at this
    exact this
  have HA : Hid (∀ (p : Nat) (h : T), at_ (one p q h) 2 = some ⟨p, q, h⟩) := fun _ _ => rfl
  clear hw
  clear hV hE hn
  go_enter Try.func6, Try.ntmps6
  go_wp2_with fail
  rw [show w.alloc (Obj.cells #[i64 q.a, i64 q.b, i64 q.c] 22) = V from HV.out.symm]
  refine (new_ok V ⟨64, 64, 64⟩ (by decide)).mono ?_
  rintro e w1 ⟨rfl, hb1, hk1, hz1⟩
  have HK1 : Hid (Bk w1 V.heap.size (V.heap.size + 1) ⟨64, 64, 64⟩ non) := hk1
  have HB1 : Hid (Below w.heap.size w w1) := HB0.out.trans (hb1.mono HB0.out.size)
  have hq1 := blk_below HQ0.out hb1
  have c0 : w1.cell? ⟨w.heap.size, 0, none⟩ = some (i64 q.a) := blk_cell hq1 0
  have c1 : w1.cell? ⟨w.heap.size, 1, none⟩ = some (i64 q.b) := blk_cell hq1 1
  have c2 : w1.cell? ⟨w.heap.size, 2, none⟩ = some (i64 q.c) := blk_cell hq1 2
  clear hb1 hk1 hq1
  go_wp2_with fail
  refine (open_ok HK1.out 2 q).mono ?_
  rintro e w2 ⟨rfl, s2, hs2, hk2, hf2⟩
  obtain ⟨p, hs2'⟩ : ∃ p, s2 = one p q zT := by unfold OpS at hs2; rw [HE.out] at hs2; exact hs2
  subst hs2'
  rw [HE.out]
  have HK2 : Hid (Bk w2 V.heap.size (V.heap.size + 1) ⟨64, 64, 64⟩ (one p q zT)) := hk2
  have HB2 : Hid (Below w.heap.size w w2) := HB1.out.trans (hf2.below.mono HB0.out.size)
  clear hk2 hf2 hs2
  go_wp2_with fail
  refine (take_ok HK2.out 2 3 n hm).mono ?_
  rintro e w3 ⟨rfl, hk3, hf3⟩
  rw [HA.out, (HT.out p).1]
  rw [(HT.out p).2] at hk3
  have HK3 : Hid (Bk w3 V.heap.size (V.heap.size + 1) ⟨64, 64, 64⟩ (one p q ⟨0, 0, n⟩)) := hk3
  have HB3 : Hid (Below w.heap.size w w3) := HB2.out.trans (hf3.below.mono HB0.out.size)
  clear hk3 hf3
  go_wp2_with fail
  refine (has_ok HK3.out 2).mono ?_
  rintro e w4 ⟨rfl, hb4⟩
  rw [HA.out]
  have HB4 : Hid (Below w.heap.size w w4) := HB3.out.trans (hb4.mono HB3.out.size)
  have HK4 : Hid (∀ o, Bk (w4.alloc o) V.heap.size (V.heap.size + 1) ⟨64, 64, 64⟩ (one p q ⟨0, 0, n⟩)) := fun o => (HK3.out.below hb4).below ((Below.refl _ _).alloc (Nat.le_refl _) _)
  clear hb4
  unfold hT pE
  go_wp2_with fail
  refine (give_ok (HK4.out _) 2 3 n hm).mono ?_
  rintro e w5 ⟨rfl, hk5, hf5⟩
  rw [HA.out, (HG.out p).1]
  rw [(HG.out p).2] at hk5
  have HK5 : Hid (Bk w5 V.heap.size (V.heap.size + 1) ⟨64, 64, 64⟩ (one p q zT)) := hk5
  have HB5 : Hid (Below w.heap.size w w5) := (HB4.out.alloc HB4.out.size _).trans (hf5.below.mono HB0.out.size)
  clear hk5 hf5
  go_wp2_with fail
  refine (has_ok HK5.out 2).mono ?_
  rintro e w6 ⟨rfl, hb6⟩
  rw [HA.out]
  have HB6 : Hid (Below w.heap.size w w6) := HB5.out.trans (hb6.mono HB5.out.size)
  have HK6 : Hid (∀ o, Bk (w6.alloc o) V.heap.size (V.heap.size + 1) ⟨64, 64, 64⟩ (one p q zT)) := fun o => (HK5.out.below hb6).below ((Below.refl _ _).alloc (Nat.le_refl _) _)
  clear hb6
  unfold hT pE
  go_wp2_with fail
  refine (close_ok (HK6.out _) 2).mono ?_
  rintro e w7 ⟨rfl, hk7, hf7⟩
  rw [HA.out]
  rw [cl_one] at hk7
  have HK7 : Hid (Bk w7 V.heap.size (V.heap.size + 1) ⟨64, 64, 64⟩ non) := hk7
  have HB7 : Hid (Below w.heap.size w w7) := (HB6.out.alloc HB6.out.size _).trans (hf7.below.mono HB0.out.size)
  clear hk7 hf7
  unfold clE pE
  go_wp2_with fail
  refine (close_ok HK7.out 2).mono ?_
  rintro e w8 ⟨rfl, hk8, hf8⟩
  have HN : Hid (clE (at_ non 2) = 6) := rfl
  rw [HN.out]
  have HB8 : Hid (Below w.heap.size w w8) := HB7.out.trans (hf8.below.mono HB0.out.size)
  clear hk8 hf8
  go_wp2_with fail
  refine (five_ok _).mono ?_
  rintro e w9 ⟨rfl, hb9⟩
  have HB9 : Hid (Below w.heap.size w w9) := HB8.out.trans (hb9.mono HB8.out.size)
  clear hb9
  go_wp2_with fail
  go_ret
  exact ⟨rfl, HB9.out⟩
theorem back_any (w : World) (q : T) (kind n : Int) (hm : n ≤ 9223372036854775807) :
    Calls Try.prog 6 #[q.v, i64 kind, i64 n] w fun e w' => e = .returned (.bool true) ∧ Below w.heap.size w w' := by
  rcases opE_non q with hE | hE
  · by_cases hn : wrongB kind n = true ∨ q.g kind - zT.g kind < n
    · exact back_no w q kind n hm hE hn
    · have hw : wrongB kind n = false := by
        cases hb : wrongB kind n with
        | true => exact absurd (Or.inl hb) hn
        | false => rfl
      obtain ⟨hk, h0⟩ := wrongB_kind hw
      have hz : zT.g kind = 0 := by rcases hk with rfl | rfl | rfl <;> rfl
      have hn' : n ≤ q.g kind := by
        have : ¬ q.g kind - zT.g kind < n := fun h => hn (Or.inr h)
        omega
      rcases hk with rfl | rfl | rfl
      · exact back_in1 w q n h0 hm hE hn'
      · exact back_in2 w q n h0 hm hE hn'
      · exact back_in3 w q n h0 hm hE hn'
  · exact back_full w q kind n hE
end Go.Proofs.Ytfnhiefngbcnaaa
