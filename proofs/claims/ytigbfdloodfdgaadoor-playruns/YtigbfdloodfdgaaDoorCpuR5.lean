/- The document's Step: its contract, all cases together; no statement is proved in this text. -/
import Derived.Test.YtigbfdloodfdgaaDoorCpuR3
import Derived.Test.YtigbfdloodfdgaaDoorCpuR4
import Derived.Test.YtigbfdloodfdgaaDoorCpuS5
namespace Go.Proofs.YtigbfdloodfdgaaDoor
open Go.ChangeShapes Go.WideShapes Go.ChangeAt Go.RowKit

theorem rstep_ok (w : World) (C : List Nat) (hC : Rg C) (l : List UInt8) (hl : l.length ≤ maxLen) :
    Calls Tryd.prog 36 #[cpV C, .string ⟨l.toArray⟩] w fun e w' => e = .returned (dnV (stC C l) (stA C l)) ∧ Below w.heap.size w w' := by
  unfold stC stA
  by_cases he : atE l (C.getD 8 0 : Nat) = 0
  · rw [if_pos he, if_pos he]
    obtain ⟨hI, hN, hp0, hp1⟩ := at_fine he
    have hpc := hC.get 8
    obtain ⟨hn0, hn1⟩ := n_le hI
    have hsz := sz_le (atI l (C.getD 8 0 : Nat)).op.toNat
    have HA : ∀ w, Calls Tryd.prog 43 #[.string ⟨l.toArray⟩, i64 (C.getD 8 0 : Nat)] w fun e w' => e = .returned (gotV (atI l (C.getD 8 0 : Nat)) (atN l (C.getD 8 0 : Nat)) 0) ∧ Below w.heap.size w w' := fun w => by
      have := rat_any w l hl (C.getD 8 0 : Nat)
      rw [he] at this
      exact this
    have hx : 0 ≤ atN l (C.getD 8 0 : Nat) ∧ atN l (C.getD 8 0 : Nat) ≤ 4611686018427387904 := by rw [hN]; omega
    clear he hp0 hp1 hsz hN
    obtain ⟨o1, o2, o3, o4, -, -, -⟩ := isI_out hI
    generalize atI l (C.getD 8 0 : Nat) = i at *
    generalize atN l (C.getD 8 0 : Nat) = nx at *
    obtain ⟨op, A, B, n⟩ := i
    simp only at o1 o2 o3 o4 hn0 hn1
    obtain ⟨a, rfl⟩ := Int.eq_ofNat_of_zero_le o2.1
    obtain ⟨b, rfl⟩ := Int.eq_ofNat_of_zero_le o3.1
    have ha : a < 8 := by omega
    have hb : b < 8 := by omega
    simp only [Int.toNat_natCast]
    have hva := hC.get a
    have hvb := hC.get b
    rcases (show op = 1 ∨ (2 ≤ op ∧ op ≤ 12) ∨ op = 17 ∨ op = 18 ∨ op = 19 ∨ op = 0 ∨ op = 20 ∨ op = 13 ∨ op = 15 ∨ op = 14 ∨ op = 16 by omega) with rfl | ⟨h1, h2⟩ | rfl | rfl | rfl | rfl | rfl | rfl | rfl | rfl | rfl
    · rw [doC_def (by omega) (by omega), actF_def (Or.inl ⟨by simp, by simp⟩)]
      exact rstep_set w C hC _ _ a b _ _ _ n nx rfl HA ha hb rfl rfl rfl _ rfl
    · rw [doC_def (by omega) h2, actF_def (Or.inl ⟨by simp only; omega, h2⟩)]
      exact rstep_def w C hC _ _ a b _ _ _ op n nx rfl HA ha hb rfl rfl rfl _ _ h1 h2 (fun w => rres_ok w op n _ _ hva hvb h1 h2) rfl
    · rw [doC_far (by simp [gone]), actF_def (by simp)]
      exact rstep_far17 w C hC _ _ a b _ _ _ n nx rfl HA ha hb rfl rfl rfl _ ⟨hn0, hn1⟩ hx rfl
    · rw [actF_def (by simp)]
      by_cases hz : C.getD a 0 = 0
      · rw [doC_far (by unfold gone; rw [hz]; simp)]
        exact rstep_far18 w C hC _ _ a b _ _ _ n nx rfl HA ha hb rfl rfl rfl _ hz ⟨hn0, hn1⟩ hx rfl
      · rw [doC_stay (by unfold gone; simp; exact hz) (by omega)]
        exact rstep_stay18 w C hC _ _ a b _ _ _ n nx rfl HA ha hb rfl rfl rfl hz
    · rw [actF_def (by simp)]
      by_cases hz : C.getD a 0 = 0
      · rw [doC_stay (by unfold gone; rw [hz]; simp) (by omega)]
        exact rstep_stay19 w C hC _ _ a b _ _ _ n nx rfl HA ha hb rfl rfl rfl hz
      · rw [doC_far (by unfold gone; simp; exact hz)]
        exact rstep_far19 w C hC _ _ a b _ _ _ n nx rfl HA ha hb rfl rfl rfl _ hz ⟨hn0, hn1⟩ hx rfl
    · rw [doC_stay (by simp [gone]) (by omega), show actF ⟨0, a, b, n⟩ (C.getD a 0) (C.getD b 0) = ⟨1, 0, 0, 0, 0, 0⟩ by simp [actF]]
      exact rstep_asked0 w C hC _ _ a b _ _ _ n nx rfl HA ha hb rfl rfl rfl
    · rw [doC_stay (by simp [gone]) (by omega), show actF ⟨20, a, b, n⟩ (C.getD a 0) (C.getD b 0) = ⟨2, n, 0, 0, 0, 0⟩ by simp [actF]]
      exact rstep_asked20 w C hC _ _ a b _ _ _ n nx rfl HA ha hb rfl rfl rfl
    · rw [doC_stay (by simp [gone]) (by omega), show actF ⟨13, a, b, n⟩ (C.getD a 0) (C.getD b 0) = ⟨3, 0, a, (C.getD b 0 : Nat), 1, 0⟩ by simp [actF]]
      exact rstep_asked13 w C hC _ _ a b _ _ _ n nx rfl HA ha hb rfl rfl rfl
    · rw [doC_stay (by simp [gone]) (by omega), show actF ⟨15, a, b, n⟩ (C.getD a 0) (C.getD b 0) = ⟨3, 0, a, (C.getD b 0 : Nat), 2, 0⟩ by simp [actF]]
      exact rstep_asked15 w C hC _ _ a b _ _ _ n nx rfl HA ha hb rfl rfl rfl
    · rw [doC_stay (by simp [gone]) (by omega), show actF ⟨14, a, b, n⟩ (C.getD a 0) (C.getD b 0) = ⟨4, 0, 0, (C.getD a 0 : Nat), 1, (C.getD b 0 % 256 : Nat)⟩ by simp [actF]]
      exact rstep_asked14 w C hC _ _ a b _ _ _ n nx rfl HA ha hb rfl rfl rfl
    · rw [doC_stay (by simp [gone]) (by omega), show actF ⟨16, a, b, n⟩ (C.getD a 0) (C.getD b 0) = ⟨4, 0, 0, (C.getD a 0 : Nat), 2, (C.getD b 0 : Nat)⟩ by simp [actF]]
      exact rstep_asked16 w C hC _ _ a b _ _ _ n nx rfl HA ha hb rfl rfl rfl
  · rw [if_neg he, if_neg he]
    exact rstep_bad w C hC _ _ _ _ _ rfl (fun w => rat_any w l hl _) he

theorem eqInt3 (d : Nat) (x y : Int) (w : World) : (Op.equalIn (d + 1) 3 (i64 x) (i64 y)).run Tryd.prog w = .ok (x == y) w := run_equalIn_int w d 3 .i64 .i64 x y Tryd.underlying3
theorem eqInt22 (d : Nat) (x y : Int) (w : World) : (Op.equalIn (d + 1) 27 (u16 x) (u16 y)).run Tryd.prog w = .ok (x == y) w := run_equalIn_int w d 27 .u16 .u16 x y Tryd.underlying27
end Go.Proofs.YtigbfdloodfdgaaDoor
