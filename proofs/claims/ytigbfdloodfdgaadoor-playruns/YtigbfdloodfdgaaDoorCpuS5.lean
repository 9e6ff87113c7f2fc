/- cpu.Step: its contract, all cases together; no statement is proved in this text. -/
import Derived.Test.YtigbfdloodfdgaaDoorCpuS3
import Derived.Test.YtigbfdloodfdgaaDoorCpuS4
namespace Go.Proofs.YtigbfdloodfdgaaDoor
open Go.ChangeShapes Go.WideShapes Go.ChangeAt Go.RowKit

theorem n_le {i : In} (h : isI i = true) : 0 ≤ i.n ∧ i.n ≤ 65535 := by
  obtain ⟨_, _, _, h4, _, _, h7⟩ := isI_out h
  have hb := nb_le i.op.toNat
  have hp : 256 ^ nb i.op.toNat ≤ 256 ^ 2 := Nat.pow_le_pow_right (by omega) hb
  have e : ((256 ^ nb i.op.toNat : Nat) : Int) = (256 : Int) ^ nb i.op.toNat := Int.natCast_pow 256 _
  omega
theorem doC_def {C : List Nat} {op n nx : Int} {a b : Nat} (h1 : 1 ≤ op) (h2 : op ≤ 12) : doC C ⟨op, a, b, n⟩ nx = (C.set 8 (wd nx)).set a (wd (rsF op n (C.getD a 0) (C.getD b 0))) := by
  have hg : gone op (C.getD a 0) = false := by unfold gone; simp; omega
  unfold doC
  simp only [Int.toNat_natCast]
  rw [hg, if_neg (by simp), if_pos ⟨h1, h2⟩]
theorem actF_def {i : In} {va vb : Nat} (h : (1 ≤ i.op ∧ i.op ≤ 12) ∨ i.op = 17 ∨ i.op = 18 ∨ i.op = 19) : actF i va vb = ⟨5, 0, 0, 0, 0, 0⟩ := by
  unfold actF
  rw [if_neg (by omega), if_neg (by omega), if_neg (by omega), if_neg (by omega), if_neg (by omega), if_neg (by omega)]
theorem doC_far {C : List Nat} {op n nx : Int} {a b : Nat} (h : gone op (C.getD a 0) = true) : doC C ⟨op, a, b, n⟩ nx = C.set 8 (wd (nx + n)) := by
  unfold doC
  simp only [Int.toNat_natCast]
  rw [h, if_pos rfl]
theorem doC_stay {C : List Nat} {op n nx : Int} {a b : Nat} (h : gone op (C.getD a 0) = false) (h2 : ¬ (1 ≤ op ∧ op ≤ 12)) : doC C ⟨op, a, b, n⟩ nx = C.set 8 (wd nx) := by
  unfold doC
  simp only [Int.toNat_natCast]
  rw [h, if_neg (by simp), if_neg h2]
theorem step_ok (w : World) (ht : Tab w) (C : List Nat) (hC : Rg C) (l : List UInt8) (hl : l.length ≤ maxLen) :
    Calls Tryd.prog 16 #[cpV C, .string ⟨l.toArray⟩] w fun e w' => e = .returned (stV (stC C l) (stA C l)) ∧ Below w.heap.size w w' := by
  unfold stC stA
  by_cases he : atE l (C.getD 8 0 : Nat) = 0
  · rw [if_pos he, if_pos he]
    obtain ⟨hI, hN, hp0, hp1⟩ := at_fine he
    have hpc := hC.get 8
    obtain ⟨hn0, hn1⟩ := n_le hI
    have hsz := sz_le (atI l (C.getD 8 0 : Nat)).op.toNat
    have HA : ∀ w, Tab w → Calls Tryd.prog 32 #[.string ⟨l.toArray⟩, i64 (C.getD 8 0 : Nat)] w fun e w' => e = .returned (atV (atI l (C.getD 8 0 : Nat)) (atN l (C.getD 8 0 : Nat)) 0) ∧ Below w.heap.size w w' := fun w ht => by
      have := at_any w ht l hl (C.getD 8 0 : Nat)
      rw [he] at this
      exact this
    have hx : 0 ≤ atN l (C.getD 8 0 : Nat) ∧ atN l (C.getD 8 0 : Nat) ≤ 4611686018427387904 := by rw [hN]; omega
    clear he hp0 hp1 hsz hN
    obtain ⟨o1, o2, o3, o4, -, -, -⟩ := isI_out hI
    generalize atI l (C.getD 8 0 : Nat) = i at *
    generalize atN l (C.getD 8 0 : Nat) = nx at *
    obtain ⟨op, A, B, n⟩ := i
    simp only at o1 o2 o3 o4 hn0 hn1
    obtain ⟨a, rfl⟩ := Int.eq_ofNat_of_zero_le o2.1
    obtain ⟨b, rfl⟩ := Int.eq_ofNat_of_zero_le o3.1
    have ha : a < 8 := by omega
    have hb : b < 8 := by omega
    simp only [Int.toNat_natCast]
    have hva := hC.get a
    have hvb := hC.get b
    rcases (show (1 ≤ op ∧ op ≤ 12) ∨ op = 17 ∨ op = 18 ∨ op = 19 ∨ op = 0 ∨ op = 20 ∨ op = 13 ∨ op = 15 ∨ op = 14 ∨ op = 16 by omega) with ⟨h1, h2⟩ | rfl | rfl | rfl | rfl | rfl | rfl | rfl | rfl | rfl
    · rw [doC_def h1 h2, actF_def (Or.inl ⟨h1, h2⟩)]
      exact step_def w ht C hC _ _ a b _ _ _ _ op n nx _ rfl HA ha hb rfl rfl rfl h1 h2 (fun w => res_ok w ⟨op, a, b, n⟩ _ _ hva hvb h1 h2) rfl
    · rw [doC_far (by simp [gone]), actF_def (by simp)]
      exact step_far17 w ht C hC _ _ a b _ _ _ _ n nx rfl HA ha hb rfl rfl rfl ⟨hn0, hn1⟩ hx rfl
    · rw [actF_def (by simp)]
      by_cases hz : C.getD a 0 = 0
      · rw [doC_far (by unfold gone; rw [hz]; simp)]
        exact step_far18 w ht C hC _ _ a b _ _ _ _ n nx rfl HA ha hb rfl rfl rfl hz ⟨hn0, hn1⟩ hx rfl
      · rw [doC_stay (by unfold gone; simp; exact hz) (by omega)]
        exact step_stay18 w ht C hC _ _ a b _ _ _ n nx rfl HA ha hb rfl rfl rfl hz
    · rw [actF_def (by simp)]
      by_cases hz : C.getD a 0 = 0
      · rw [doC_stay (by unfold gone; rw [hz]; simp) (by omega)]
        exact step_stay19 w ht C hC _ _ a b _ _ _ n nx rfl HA ha hb rfl rfl rfl hz
      · rw [doC_far (by unfold gone; simp; exact hz)]
        exact step_far19 w ht C hC _ _ a b _ _ _ _ n nx rfl HA ha hb rfl rfl rfl hz ⟨hn0, hn1⟩ hx rfl
    · rw [doC_stay (by simp [gone]) (by omega)]
      exact step_asked0 w ht C hC _ _ a b _ _ _ n nx rfl HA ha hb rfl rfl rfl _ (fun w => asked0 w a b n _ _ hva hvb)
    · rw [doC_stay (by simp [gone]) (by omega)]
      exact step_asked20 w ht C hC _ _ a b _ _ _ n nx rfl HA ha hb rfl rfl rfl _ (fun w => asked20 w a b n _ _ hva hvb)
    · rw [doC_stay (by simp [gone]) (by omega)]
      exact step_asked13 w ht C hC _ _ a b _ _ _ n nx rfl HA ha hb rfl rfl rfl _ (fun w => asked13 w a b n _ _ hva hvb)
    · rw [doC_stay (by simp [gone]) (by omega)]
      exact step_asked15 w ht C hC _ _ a b _ _ _ n nx rfl HA ha hb rfl rfl rfl _ (fun w => asked15 w a b n _ _ hva hvb)
    · rw [doC_stay (by simp [gone]) (by omega)]
      exact step_asked14 w ht C hC _ _ a b _ _ _ n nx rfl HA ha hb rfl rfl rfl _ (fun w => asked14 w a b n _ _ hva hvb)
    · rw [doC_stay (by simp [gone]) (by omega)]
      exact step_asked16 w ht C hC _ _ a b _ _ _ n nx rfl HA ha hb rfl rfl rfl _ (fun w => asked16 w a b n _ _ hva hvb)
  · rw [if_neg he, if_neg he]
    exact step_bad w ht C hC l hl he
end Go.Proofs.YtigbfdloodfdgaaDoor
