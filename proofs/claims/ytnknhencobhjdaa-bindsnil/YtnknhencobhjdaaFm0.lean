/- imagolaw11.frame; no statement is proved in this text. -/
import Derived.Test.YtnknhencobhjdaaFre
import Derived.Test.YtnknhencobhjdaaNw
import Derived.Test.YtnknhencobhjdaaSh1
import Derived.Test.YtnknhencobhjdaaNm
import Derived.Test.YtnknhencobhjdaaNum
namespace Go.Proofs.Ytnknhencobhjdaa
open Go.ChangeShapes Go.WideShapes Go.ChangeAt Go.RowKit Go.Deep Go.ChangeMaps Go.MapKept
open Go.Proofs.Ytnknhencobhjdaa.Cp (pq hid below_one hO cO zC looks_nil)
open Go.Proofs.Ytnknhencobhjdaa.Qt (zT badB)

def T1 : List Cp.Pl := Cp.z128.set 0 ⟨⟨1, 1, 0, 3⟩, -1, 1⟩
def T2 : List Cp.Pl := T1.set 1 ⟨⟨2, 1, 0, 1⟩, 0, 1⟩
def T3 : List Cp.Pl := Cp.clr T2 (Cp.gnL T2 (Cp.mDrop 0) 4 128)
theorem z128_get {i : Nat} {p : Cp.Pl} (h : Cp.z128[i]? = some p) : p.c = zC := by
  unfold Cp.z128 at h
  rw [List.getElem?_replicate] at h
  split at h
  · cases h; rfl
  · cases h
theorem T2_get {i : Nat} {p : Cp.Pl} (h : T2[i]? = some p) : (i = 0 ∧ p = ⟨⟨1, 1, 0, 3⟩, -1, 1⟩) ∨ (i = 1 ∧ p = ⟨⟨2, 1, 0, 1⟩, 0, 1⟩) ∨ p.c = zC := by
  unfold T2 T1 at h
  rw [List.getElem?_set] at h
  split at h
  · rename_i e
    rw [if_pos (by simp [Cp.z128])] at h
    cases h
    exact Or.inr (Or.inl ⟨e.symm, rfl⟩)
  · rw [List.getElem?_set] at h
    split at h
    · rename_i e
      rw [if_pos (by simp [Cp.z128])] at h
      cases h
      exact Or.inl ⟨e.symm, rfl⟩
    · exact Or.inr (Or.inr (z128_get h))
theorem T2_rts : Cp.Rts T2 := fun i p hi hc => by
  rcases T2_get hi with ⟨_, rfl⟩ | ⟨_, rfl⟩ | h
  · decide
  · decide
  · exact absurd h hc
theorem T2_rk : Cp.Rk T2 (fun i => if i = 1 then 1 else 0) := ⟨fun s p hp hc => by
  rcases T2_get hp with ⟨_, rfl⟩ | ⟨rfl, rfl⟩ | h
  · exact Or.inl rfl
  · exact Or.inr ⟨0, ⟨⟨1, 1, 0, 3⟩, -1, 1⟩, rfl, by kernel_rfl, by decide, by simp⟩
  · exact absurd h hc⟩
theorem look1 : Cp.lookF T1 1 0 1 = some ⟨1, 1, 0, 3⟩ := by kernel_rfl
theorem look2 : Cp.lookF T2 2 1 1 = some ⟨2, 1, 0, 1⟩ := by kernel_rfl
theorem look3 : Cp.lookF T2 1 0 1 = some ⟨1, 1, 0, 3⟩ := by kernel_rfl
theorem look4 : Cp.lookF T3 2 1 1 = none := by decide +kernel
theorem Tb.z0 : Cp.z128[0]? = some ⟨zC, 0, 0⟩ := by kernel_rfl
theorem T1_1 : T1[1]? = some ⟨zC, 0, 0⟩ := by kernel_rfl
theorem T1_0 : ∀ j r, j < 1 → T1[j]? = some r → r.c ≠ zC := fun j r hj h => by
  obtain rfl : j = 0 := by omega
  rw [show T1[0]? = some ⟨⟨1, 1, 0, 3⟩, -1, 1⟩ by kernel_rfl] at h
  cases h
  decide
/-- What the pages are, as frame goes on. -/
def sA (p1 p2 : Nat) : Qt.St := Qt.upd (Qt.upd (fun _ => none) (1 - 1 : Int).toNat (some ⟨p1, ⟨2, 2, 2⟩, zT⟩)) (2 - 1 : Int).toNat (some ⟨p2, ⟨2, 2, 2⟩, zT⟩)
theorem tk1 (p1 p2 : Nat) : Qt.tkE (Qt.at_ (sA p1 p2) 1) 1 1 = 0 := by kernel_rfl
theorem lf2 (p1 p2 : Nat) : Qt.pE (Qt.at_ (Qt.tkS (sA p1 p2) 1 1 1) 2) = 0 := by kernel_rfl
theorem fr4 (p1 p2 : Nat) : Qt.freeT ⟨4, 4, 4⟩ (Qt.gvS (Qt.tkS (sA p1 p2) 1 1 1) 1 1 1) = ⟨4, 4, 4⟩ := by kernel_rfl
theorem op1 : Qt.opE ⟨4, 4, 4⟩ (fun _ => none) 1 ⟨2, 2, 2⟩ = 0 := by kernel_rfl
theorem op2 (p1 : Nat) : Qt.opE ⟨4, 4, 4⟩ (Qt.upd (fun _ => none) (1 - 1 : Int).toNat (some ⟨p1, ⟨2, 2, 2⟩, zT⟩)) 2 ⟨2, 2, 2⟩ = 0 := by kernel_rfl
def R0 : Nat → List Hn := fun _ => List.replicate 4 ((0 : Int), (0 : Int))
def R1 : Nat → List Hn := rset R0 0 0 (0, 1)
def L1 : Ls := [((0, 1), (1, 1))]
def L2 : Ls := [((0, 1), (1, 1)), ((1, 1), (2, 1))]
theorem new4 (w : World) : Calls Try.prog 9 #[.agg #[i64 4, i64 4, i64 4]] w fun e w' => ∃ B x, e = .returned (.tuple #[pq B, i64 0]) ∧ Bd w' w.heap.size B x ⟨4, 4, 4⟩ (fun _ => none) Cp.z128 [] R0 ∧ Below w.heap.size w w' := bnew_ok w (fun _ => 4) (fun _ _ => by omega)
theorem open1 {w : World} {base b : Nat} {x : Bx} {T : List Cp.Pl} {L : Ls} {R : Nat → List Hn} (h : Bd w base b x ⟨4, 4, 4⟩ (fun _ => none) T L R) : Calls Try.prog 18 #[pq b, i64 1, .agg #[i64 2, i64 2, i64 2]] w fun e w' => e = .returned (i64 0) ∧ ∃ p1, Bd w' base b x ⟨4, 4, 4⟩ (Qt.upd (fun _ => none) (1 - 1 : Int).toNat (some ⟨p1, ⟨2, 2, 2⟩, zT⟩)) T L R ∧ Bf base x w w' :=
  (open_ok h 1 2 2 2).mono fun e w' ⟨he, s', hs, hd, hf⟩ => by
    unfold Qt.OpS at hs
    rw [if_pos op1] at hs
    obtain ⟨p1, rfl⟩ := hs
    rw [op1] at he
    exact ⟨he, p1, hd, hf⟩
theorem open2 {w : World} {base b : Nat} {x : Bx} {T : List Cp.Pl} {L : Ls} {R : Nat → List Hn} {p1 : Nat} (h : Bd w base b x ⟨4, 4, 4⟩ (Qt.upd (fun _ => none) (1 - 1 : Int).toNat (some ⟨p1, ⟨2, 2, 2⟩, zT⟩)) T L R) : Calls Try.prog 18 #[pq b, i64 2, .agg #[i64 2, i64 2, i64 2]] w fun e w' => e = .returned (i64 0) ∧ ∃ p2, Bd w' base b x ⟨4, 4, 4⟩ (sA p1 p2) T L R ∧ Bf base x w w' :=
  (open_ok h 2 2 2 2).mono fun e w' ⟨he, s', hs, hd, hf⟩ => by
    unfold Qt.OpS at hs
    rw [if_pos (op2 p1)] at hs
    obtain ⟨p2, rfl⟩ := hs
    rw [op2] at he
    exact ⟨he, p2, hd, hf⟩
theorem bind1 {w : World} {base b : Nat} {x : Bx} {p1 p2 : Nat} (h : Bd w base b x ⟨4, 4, 4⟩ (sA p1 p2) Cp.z128 [] R0) : Calls Try.prog 20 #[pq b, i64 1, i64 1] w fun e w' => e = .returned (.tuple #[i64 0, .agg #[i64 0, i64 1], i64 0]) ∧ Bd w' base b x ⟨4, 4, 4⟩ (Qt.tkS (sA p1 p2) 1 1 1) T1 L1 R1 ∧ Bf base x w w' :=
  bind_ok h (by simp) 1 1 (tk1 p1 p2) (by decide) 0 (by omega) rfl 0 (by kernel_rfl) (fun j hj => by omega) (by decide) 0 ⟨zC, 0, 0⟩ Tb.z0 rfl (fun j r hj => by omega) (by simp) (by simp) (fun r hr => by cases hr)
theorem share1 {w : World} {base b : Nat} {x : Bx} {p1 p2 : Nat} (h : Bd w base b x ⟨4, 4, 4⟩ (Qt.tkS (sA p1 p2) 1 1 1) T1 L1 R1) : Calls Try.prog 24 #[pq b, i64 1, .agg #[i64 0, i64 1], i64 2, i64 1] w fun e w' => e = .returned (.tuple #[.agg #[i64 1, i64 1], i64 0]) ∧ Bd w' base b x ⟨4, 4, 4⟩ (Qt.tkS (sA p1 p2) 1 1 1) T2 L2 R1 ∧ Bf base x w w' :=
  share_ok h (by decide) 1 0 1 2 1 1 1 0 3 look1 (lf2 p1 p2) (by decide) 1 1 (fun W hW => by
    have hl := Cp.looks_tb hW 1 0 1
    rw [look1] at hl
    exact Cp.derive_ok hW 1 0 1 2 1 ⟨1, 1, 0, 3⟩ hl (by decide) (by decide) (by decide) (by decide) 1 ⟨zC, 0, 0⟩ T1_1 rfl T1_0 (by simp) (by simp)) (fun r hr => by
    simp [L1] at hr
    subst hr
    decide)
theorem free1 {w : World} {base b : Nat} {x : Bx} {p1 p2 : Nat} (h : Bd w base b x ⟨4, 4, 4⟩ (Qt.tkS (sA p1 p2) 1 1 1) T2 L2 R1) : Calls Try.prog 19 #[pq b, i64 1, .agg #[i64 0, i64 1]] w fun e w' => e = .returned (i64 0) ∧ Bd w' base b x ⟨4, 4, 4⟩ (Qt.gvS (Qt.tkS (sA p1 p2) 1 1 1) 1 1 1) T3 (strL T3 L2) (mixR R1 (strL T3 L2) 3) ∧ Bf base x w w' :=
  free_ok h 1 0 1 1 1 0 3 _ look3 0 0 (by omega) rfl rfl (by kernel_rfl) (fun W hW => by
    have hl := Cp.looks_tb hW 1 0 1
    rw [look3] at hl
    exact Cp.drop_ok hW 1 0 1 ⟨1, 1, 0, 3⟩ hl (fun i => if i = 1 then 1 else 0) T2_rk 4 (fun s => by show (if s = 1 then 1 else 0) + 2 ≤ 4; split <;> omega))
end Go.Proofs.Ytnknhencobhjdaa
