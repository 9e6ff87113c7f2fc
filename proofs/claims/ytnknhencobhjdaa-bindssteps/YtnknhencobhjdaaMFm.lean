/- No statement here. -/
import Derived.Test.YtnknhencobhjdaaMFre
import Derived.Test.YtnknhencobhjdaaMNw
import Derived.Test.YtnknhencobhjdaaMSh1
import Derived.Test.YtnknhencobhjdaaMNm
import Derived.Test.YtnknhencobhjdaaMNum
set_option maxRecDepth 100000
namespace Go.Proofs.Ytnknhencobhjdaa
open Go.ChangeShapes Go.WideShapes Go.ChangeAt Go.RowKit Go.Deep Go.ChangeMaps Go.MapKept
open Go.Proofs.Ytnknhencobhjdaa.Cp (pq hid bl1 hO cO zC looks_nil)
open Go.Proofs.Ytnknhencobhjdaa.Qt (zT badB)
def T1 : List Cp.Pl := Cp.z128.set 0 ⟨⟨1, 1, 0, 3⟩, -1, 1⟩
def T2 : List Cp.Pl := T1.set 1 ⟨⟨2, 1, 0, 1⟩, 0, 1⟩
def T3 : List Cp.Pl := Cp.clr T2 (Cp.gnL T2 (Cp.mDrop 0) 4 128)
theorem z128_get {i : Nat} {p : Cp.Pl} (h : Cp.z128[i]? = some p) : p.c = zC := by
  unfold Cp.z128 at h
  rw [List.getElem?_replicate] at h
  split at h
  · cases h; rfl
  · cases h
theorem T2_get {i : Nat} {p : Cp.Pl} (h : T2[i]? = some p) : (i = 0 ∧ p = ⟨⟨1, 1, 0, 3⟩, -1, 1⟩) ∨ (i = 1 ∧ p = ⟨⟨2, 1, 0, 1⟩, 0, 1⟩) ∨ p.c = zC := by
  unfold T2 T1 at h
  rw [List.getElem?_set] at h
  split at h
  · rename_i e
    rw [if_pos (by simp [Cp.z128])] at h
    cases h
    exact Or.inr (Or.inl ⟨e.symm, rfl⟩)
  · rw [List.getElem?_set] at h
    split at h
    · rename_i e
      rw [if_pos (by simp [Cp.z128])] at h
      cases h
      exact Or.inl ⟨e.symm, rfl⟩
    · exact Or.inr (Or.inr (z128_get h))
theorem T2_rts : Cp.Rts T2 := fun i p hi hc => by
  rcases T2_get hi with ⟨_, rfl⟩ | ⟨_, rfl⟩ | h
  · decide
  · decide
  · exact absurd h hc
theorem T2_rk : Cp.Rk T2 (fun i => if i = 1 then 1 else 0) := ⟨fun s p hp hc => by
  rcases T2_get hp with ⟨_, rfl⟩ | ⟨rfl, rfl⟩ | h
  · exact Or.inl rfl
  · exact Or.inr ⟨0, ⟨⟨1, 1, 0, 3⟩, -1, 1⟩, rfl, by kernel_rfl, by decide, by simp⟩
  · exact absurd h hc⟩
theorem look1 : Cp.lookF T1 1 0 1 = some ⟨1, 1, 0, 3⟩ := by kernel_rfl
theorem look2 : Cp.lookF T2 2 1 1 = some ⟨2, 1, 0, 1⟩ := by kernel_rfl
theorem look3 : Cp.lookF T2 1 0 1 = some ⟨1, 1, 0, 3⟩ := by kernel_rfl
theorem look4 : Cp.lookF T3 2 1 1 = none := by decide +kernel
theorem Tb.z0 : Cp.z128[0]? = some ⟨zC, 0, 0⟩ := by kernel_rfl
theorem T1_1 : T1[1]? = some ⟨zC, 0, 0⟩ := by kernel_rfl
theorem T1_0 : ∀ j r, j < 1 → T1[j]? = some r → r.c ≠ zC := fun j r hj h => by
  obtain rfl : j = 0 := by omega
  rw [show T1[0]? = some ⟨⟨1, 1, 0, 3⟩, -1, 1⟩ by kernel_rfl] at h
  cases h
  decide
def sAq (p1 p2 : Nat) : Qt.St := Qt.upd (Qt.upd (fun _ => none) (1 - 1 : Int).toNat (some ⟨p1, ⟨2, 2, 2⟩, zT⟩)) (2 - 1 : Int).toNat (some ⟨p2, ⟨2, 2, 2⟩, zT⟩)
theorem tk1 (p1 p2 : Nat) : Qt.tkE (Qt.at_ (sAq p1 p2) 1) 1 1 = 0 := by kernel_rfl
theorem lf2 (p1 p2 : Nat) : Qt.pE (Qt.at_ (Qt.tkS (sAq p1 p2) 1 1 1) 2) = 0 := by kernel_rfl
theorem fr4 (p1 p2 : Nat) : Qt.freeT ⟨4, 4, 4⟩ (Qt.gvS (Qt.tkS (sAq p1 p2) 1 1 1) 1 1 1) = ⟨4, 4, 4⟩ := by kernel_rfl
theorem op1 : Qt.opE ⟨4, 4, 4⟩ (fun _ => none) 1 ⟨2, 2, 2⟩ = 0 := by kernel_rfl
theorem op2 (p1 : Nat) : Qt.opE ⟨4, 4, 4⟩ (Qt.upd (fun _ => none) (1 - 1 : Int).toNat (some ⟨p1, ⟨2, 2, 2⟩, zT⟩)) 2 ⟨2, 2, 2⟩ = 0 := by kernel_rfl
def R0 : Nat → List Hn := fun _ => List.replicate 4 ((0 : Int), (0 : Int))
def R1 : Nat → List Hn := rset R0 0 0 (0, 1)
def L1 : Ls := [((0, 1), (1, 1))]
def L2 : Ls := [((0, 1), (1, 1)), ((1, 1), (2, 1))]
theorem new4 (w : World) : Calls Try.prog 9 #[.agg #[i64 4, i64 4, i64 4]] w fun e w' => ∃ B x, e = .returned (.tuple #[pq B, i64 0]) ∧ Bd w' w.heap.size B x ⟨4, 4, 4⟩ (fun _ => none) Cp.z128 [] R0 ∧ Below w.heap.size w w' := bnew_ok w (fun _ => 4) (fun _ _ => by omega)
theorem open1 {w : World} {base b : Nat} {x : Bx} {T : List Cp.Pl} {L : Ls} {R : Nat → List Hn} (h : Bd w base b x ⟨4, 4, 4⟩ (fun _ => none) T L R) : Calls Try.prog 18 #[pq b, i64 1, .agg #[i64 2, i64 2, i64 2]] w fun e w' => e = .returned (i64 0) ∧ ∃ p1, Bd w' base b x ⟨4, 4, 4⟩ (Qt.upd (fun _ => none) (1 - 1 : Int).toNat (some ⟨p1, ⟨2, 2, 2⟩, zT⟩)) T L R ∧ Bf base x w w' :=
  (open_ok h 1 2 2 2).mono fun e w' ⟨he, s', hs, hd, hf⟩ => by
    unfold Qt.OpS at hs
    rw [if_pos op1] at hs
    obtain ⟨p1, rfl⟩ := hs
    rw [op1] at he
    exact ⟨he, p1, hd, hf⟩
theorem open2 {w : World} {base b : Nat} {x : Bx} {T : List Cp.Pl} {L : Ls} {R : Nat → List Hn} {p1 : Nat} (h : Bd w base b x ⟨4, 4, 4⟩ (Qt.upd (fun _ => none) (1 - 1 : Int).toNat (some ⟨p1, ⟨2, 2, 2⟩, zT⟩)) T L R) : Calls Try.prog 18 #[pq b, i64 2, .agg #[i64 2, i64 2, i64 2]] w fun e w' => e = .returned (i64 0) ∧ ∃ p2, Bd w' base b x ⟨4, 4, 4⟩ (sAq p1 p2) T L R ∧ Bf base x w w' :=
  (open_ok h 2 2 2 2).mono fun e w' ⟨he, s', hs, hd, hf⟩ => by
    unfold Qt.OpS at hs
    rw [if_pos (op2 p1)] at hs
    obtain ⟨p2, rfl⟩ := hs
    rw [op2] at he
    exact ⟨he, p2, hd, hf⟩
theorem bind1 {w : World} {base b : Nat} {x : Bx} {p1 p2 : Nat} (h : Bd w base b x ⟨4, 4, 4⟩ (sAq p1 p2) Cp.z128 [] R0) : Calls Try.prog 20 #[pq b, i64 1, i64 1] w fun e w' => e = .returned (.tuple #[i64 0, .agg #[i64 0, i64 1], i64 0]) ∧ Bd w' base b x ⟨4, 4, 4⟩ (Qt.tkS (sAq p1 p2) 1 1 1) T1 L1 R1 ∧ Bf base x w w' :=
  bind_ok h (by simp) 1 1 (tk1 p1 p2) (by decide) 0 (by omega) rfl 0 (by kernel_rfl) (fun j hj => by omega) (by decide) 0 ⟨zC, 0, 0⟩ Tb.z0 rfl (fun j r hj => by omega) (by simp) (by simp) (fun r hr => by cases hr)
theorem share1 {w : World} {base b : Nat} {x : Bx} {p1 p2 : Nat} (h : Bd w base b x ⟨4, 4, 4⟩ (Qt.tkS (sAq p1 p2) 1 1 1) T1 L1 R1) : Calls Try.prog 24 #[pq b, i64 1, .agg #[i64 0, i64 1], i64 2, i64 1] w fun e w' => e = .returned (.tuple #[.agg #[i64 1, i64 1], i64 0]) ∧ Bd w' base b x ⟨4, 4, 4⟩ (Qt.tkS (sAq p1 p2) 1 1 1) T2 L2 R1 ∧ Bf base x w w' :=
  share_ok h (by decide) 1 0 1 2 1 1 1 0 3 look1 (lf2 p1 p2) (by decide) 1 1 (fun W hW => by
    have hl := Cp.looks_tb hW 1 0 1
    rw [look1] at hl
    exact Cp.derive_ok hW 1 0 1 2 1 ⟨1, 1, 0, 3⟩ hl (by decide) (by decide) (by decide) (by decide) 1 ⟨zC, 0, 0⟩ T1_1 rfl T1_0 (by simp) (by simp)) (fun r hr => by
    simp [L1] at hr
    subst hr
    decide)
theorem free1 {w : World} {base b : Nat} {x : Bx} {p1 p2 : Nat} (h : Bd w base b x ⟨4, 4, 4⟩ (Qt.tkS (sAq p1 p2) 1 1 1) T2 L2 R1) : Calls Try.prog 19 #[pq b, i64 1, .agg #[i64 0, i64 1]] w fun e w' => e = .returned (i64 0) ∧ Bd w' base b x ⟨4, 4, 4⟩ (Qt.gvS (Qt.tkS (sAq p1 p2) 1 1 1) 1 1 1) T3 (strL T3 L2) (mixR R1 (strL T3 L2) 3) ∧ Bf base x w w' :=
  free_ok h 1 0 1 1 1 0 3 _ look3 0 0 (by omega) rfl rfl (by kernel_rfl) (fun W hW => by
    have hl := Cp.looks_tb hW 1 0 1
    rw [look3] at hl
    exact Cp.drop_ok hW 1 0 1 ⟨1, 1, 0, 3⟩ hl (fun i => if i = 1 then 1 else 0) T2_rk 4 (fun s => by show (if s = 1 then 1 else 0) + 2 ≤ 4; split <;> omega))
end Go.Proofs.Ytnknhencobhjdaa
namespace Go.Proofs.Ytnknhencobhjdaa
open Go.ChangeShapes Go.WideShapes Go.ChangeAt Go.RowKit Go.Deep Go.ChangeMaps Go.MapKept
open Go.Proofs.Ytnknhencobhjdaa.Cp (pq hid bl1 hO cO zC looks_nil)
open Go.Proofs.Ytnknhencobhjdaa.Qt (zT badB)
set_option maxHeartbeats 3200000 in
theorem frame_ok (w : World) : Calls Try.prog 10 #[] w fun e w' => e = .returned (.bool true) ∧ Below w.heap.size w w' := by
  have HF : Hid (w.heap.size ≤ w.heap.size) := Nat.le_refl _
  go_enter Try.func10, Try.ntmps10
  go_wp2_with fail
  refine (new4 w).mono ?_
  rintro e w1 ⟨B, x, rfl, hd1, hb1⟩
  have HD1 := hid hd1
  have HB1 : Hid (Below w.heap.size w w1) := hb1
  clear hd1 hb1
  go_wp2_with fail
  refine (open1 HD1.out).mono ?_
  rintro e w2 ⟨rfl, p1, hd2, hf2⟩
  have HD2 := hid hd2
  have HB2 : Hid (Below w.heap.size w w2) := HB1.out.trans hf2.below
  clear hd2 hf2 HD1 HB1
  go_wp2_with fail
  refine (open2 HD2.out).mono ?_
  rintro e w3 ⟨rfl, p2, hd3, hf3⟩
  have HD3 := hid hd3
  have HB3 : Hid (Below w.heap.size w w3) := HB2.out.trans hf3.below
  clear hd3 hf3 HD2 HB2
  go_wp2_with fail
  refine (bind1 HD3.out).mono ?_
  rintro e w4 ⟨rfl, hd4, hf4⟩
  have HD4 : Hid (Bd (w4.alloc (.cells #[i64 0, i64 1] 43)) w.heap.size B x ⟨4, 4, 4⟩ (Qt.tkS (sAq p1 p2) 1 1 1) T1 L1 R1) := hd4.below (bl1 w4 _)
  have HB4 : Hid (Below w.heap.size w (w4.alloc (.cells #[i64 0, i64 1] 43))) := (HB3.out.trans hf4.below).trans ((bl1 w4 _).mono hd4.lo')
  have HH4 : Hid ((w4.alloc (.cells #[i64 0, i64 1] 43)).heap[w4.heap.size]? = some (hO 0 1)) := hlx w4 _
  have HG4 : Hid (∀ j, j < 3 → x.g j < w4.heap.size) := fun j hj => blk_lt (hd4.rt j hj).1
  have hl4 : w.heap.size ≤ w4.heap.size := hd4.lo'
  clear hd4 hf4 HD3 HB3
  go_upto_region 5 with fail
  generalize w4.alloc (.cells #[i64 0, i64 1] 43) = W4 at *
  generalize w4.heap.size = H at *
  have a0 : W4.cell? ⟨H, 0, none⟩ = some (i64 0) := bkc HH4.out 0
  have a1 : W4.cell? ⟨H, 1, none⟩ = some (i64 1) := bkc HH4.out 1
  go_wp2_with fail
  refine (share1 HD4.out).mono ?_
  rintro e w5 ⟨rfl, hd5, hf5⟩
  have hkeep : ∀ W', Bf w.heap.size x W4 W' → W'.heap[H]? = some (hO 0 1) := fun W' hf => hf.kept _ _ HH4.out (by
    have e0 := HG4.out 0 (by omega)
    have e1 := HG4.out 1 (by omega)
    have e2 := HG4.out 2 (by omega)
    simp only [ownB, Bool.or_eq_false_iff, beq_eq_false_iff_ne]
    refine ⟨⟨⟨⟨⟨by decide, by decide⟩, by decide⟩, by omega⟩, by omega⟩, by omega⟩)
  have HD5 : Hid (Bd (w5.alloc (.cells #[i64 1, i64 1] 43)) w.heap.size B x ⟨4, 4, 4⟩ (Qt.tkS (sAq p1 p2) 1 1 1) T2 L2 R1) := hd5.below (bl1 w5 _)
  have HB5 : Hid (Below w.heap.size w (w5.alloc (.cells #[i64 1, i64 1] 43))) := (HB4.out.trans hf5.below).trans ((bl1 w5 _).mono hd5.lo')
  have HH5 : Hid ((w5.alloc (.cells #[i64 1, i64 1] 43)).heap[H]? = some (hO 0 1)) := bka (hkeep w5 hf5) _
  have HK5 : Hid ((w5.alloc (.cells #[i64 1, i64 1] 43)).heap[w5.heap.size]? = some (hO 1 1)) := hlx w5 _
  have HG5 : Hid (∀ j, j < 3 → x.g j < w5.heap.size) := fun j hj => blk_lt (hd5.rt j hj).1
  have hl5 : w.heap.size ≤ w5.heap.size := hd5.lo'
  clear hd5 hf5 HD4 HB4 a0 a1 hkeep HH4 HG4
  go_upto_region 6 with fail
  generalize w5.alloc (.cells #[i64 1, i64 1] 43) = W5 at *
  generalize w5.heap.size = H2 at *
  have a0 : W5.cell? ⟨H2, 0, none⟩ = some (i64 1) := bkc HK5.out 0
  have a1 : W5.cell? ⟨H2, 1, none⟩ = some (i64 1) := bkc HK5.out 1
  go_wp2_with fail
  refine (number_ok HD5.out T2_rts 2 1 1 2 1 0 1 look2 (by decide)).mono ?_
  rintro e w6 ⟨rfl, hb6⟩
  have HD6 := hid (HD5.out.below hb6)
  have HB6 := bth HB5 hb6
  have HH6 : Hid (w6.heap[H]? = some (hO 0 1)) := bkb HH5.out hb6
  have HK6 : Hid (w6.heap[H2]? = some (hO 1 1)) := bkb HK5.out hb6
  clear hb6 HD5 HB5 HH5 HK5 a0 a1
  have a0 : w6.cell? ⟨H, 0, none⟩ = some (i64 0) := bkc HH6.out 0
  have a1 : w6.cell? ⟨H, 1, none⟩ = some (i64 1) := bkc HH6.out 1
  go_wp2_with fail
  refine (free1 HD6.out).mono ?_
  rintro e w7 ⟨rfl, hd7, hf7⟩
  have HD7 := hid hd7
  have HB7 : Hid (Below w.heap.size w w7) := HB6.out.trans hf7.below
  have HK7 : Hid (w7.heap[H2]? = some (hO 1 1)) := hf7.kept _ _ HK6.out (by
    have e0 := HG5.out 0 (by omega)
    have e1 := HG5.out 1 (by omega)
    have e2 := HG5.out 2 (by omega)
    simp only [ownB, Bool.or_eq_false_iff, beq_eq_false_iff_ne]
    refine ⟨⟨⟨⟨⟨by decide, by decide⟩, by decide⟩, by omega⟩, by omega⟩, by omega⟩)
  clear hd7 hf7 HD6 HB6 HH6 HK6 a0 a1
  generalize strL T3 L2 = L3 at *
  generalize mixR R1 L3 3 = R3 at *
  have a0 : w7.cell? ⟨H2, 0, none⟩ = some (i64 1) := bkc HK7.out 0
  have a1 : w7.cell? ⟨H2, 1, none⟩ = some (i64 1) := bkc HK7.out 1
  go_wp2_with fail
  refine (number_stale w7 (pq B) _ _ _ _ _ _ 2 1 1 1 0 0 0 0 rfl (ent_ok HD7.out.row) (by have := Cp.looks_tb HD7.out.tb 2 1 1; rw [look4] at this; exact this)).mono ?_
  rintro e w8 ⟨rfl, hb8⟩
  have HD8 := hid (HD7.out.below hb8)
  have HB8 := bth HB7 hb8
  clear hb8 HD7 HB7 HK7 a0 a1
  go_wp2_with fail
  refine (spare_ok HD8.out).mono ?_
  rintro e w9 ⟨he, hb9⟩
  rw [fr4] at he
  subst he
  have HB9 := bth HB8 hb9
  clear hb9 HD8 HB8
  have hq : (Op.equalIn 10000 22 (.agg #[i64 4, i64 4, i64 4]) (.agg #[i64 4, i64 4, i64 4])).run Try.prog w9 = .ok true w9 := Qt.eqIn22 9998 ⟨4, 4, 4⟩ ⟨4, 4, 4⟩ w9
  unfold Qt.T.v
  go_wp2_with fail
  go_ret
  exact ⟨rfl, HB9.out⟩
end Go.Proofs.Ytnknhencobhjdaa
