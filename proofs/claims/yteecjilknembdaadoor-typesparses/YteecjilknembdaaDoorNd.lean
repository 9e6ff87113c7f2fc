/- imagoref15's is and number: their contracts; no statement is proved in this text. -/
import Derived.Test.YteecjilknembdaaDoorRf
import Derived.Test.YteecjilknembdaaDoorNu
namespace Go.Proofs.YteecjilknembdaaDoor
open Go.ChangeShapes Go.WideShapes Go.ChangeAt Go.RowKit Go.Deep
attribute [local go_sem ↓] Go.wp_at_zero Go.wp_at_succ

def hdB (l : Bs) (c : UInt8) : Bool := match l with | [] => false | b :: _ => decide (b = c)
theorem hdB_cons (b : UInt8) (r : Bs) (c : UInt8) : hdB (b :: r) c = decide (b = c) := rfl
theorem drop_at (s : ByteArray) (k : Nat) (h : k < s.size) : s.data.toList.drop k = s[k] :: s.data.toList.drop (k + 1) := by
  rw [List.drop_eq_getElem_cons (by rw [Array.length_toList]; exact h)]; rfl
theorem drop_end (s : ByteArray) (k : Nat) (h : s.size ≤ k) : s.data.toList.drop k = [] := List.drop_eq_nil_of_le (by rw [Array.length_toList]; exact h)
set_option maxHeartbeats 1600000 in
theorem is_s (s : ByteArray) (k : Nat) (c : UInt8) (w : World) : Calls Tryd.prog 44 #[.string s, i64 k, .int .u8 (c.toNat : Int)] w fun e w' => e = .returned (.bool (hdB (s.data.toList.drop k) c)) ∧ w' = w := by
  obtain ⟨R, hR⟩ : ∃ R, R = hdB (s.data.toList.drop k) c := ⟨_, rfl⟩
  have HR := hid hR
  rw [← hR]
  clear hR
  by_cases hlt : k < s.size
  · have HR2 : Hid (R = decide (s[k] = c)) := by show _ = _; rw [HR.out, drop_at s k hlt]; rfl
    by_cases hc : s[k] = c
    · have q : ((s[k].toNat : Int) == (c.toNat : Int)) = true := by simp [hc]
      have q2 : (s[k].toNat == c.toNat) = true := by simp [hc]
      have HF : Hid (R = true) := by show _ = _; rw [HR2.out]; simpa using hc
      have HC := hid hc
      clear hc
      go_enter Tryd.func44, Tryd.ntmps44
      go_wp2_with fail
      go_ret
      exact ⟨by rw [HF.out]; first | rfl | simp [HC.out], rfl⟩
    · have hne : s[k].toNat ≠ c.toNat := fun e => hc (UInt8.toNat_inj.1 e)
      have q : ((s[k].toNat : Int) == (c.toNat : Int)) = false := by simp; omega
      have q2 : (s[k].toNat == c.toNat) = false := by simpa using hne
      have HF : Hid (R = false) := by show _ = _; rw [HR2.out]; simpa using hc
      have HC := hid hc
      clear hc
      go_enter Tryd.func44, Tryd.ntmps44
      go_wp2_with fail
      go_ret
      exact ⟨by rw [HF.out]; first | rfl | (simp; omega), rfl⟩
  · have HF : Hid (R = false) := by show _ = _; rw [HR.out, drop_end s k (by omega)]; rfl
    go_enter Tryd.func44, Tryd.ntmps44
    go_wp2_with fail
    go_ret
    exact ⟨by rw [HF.out]; rfl, rfl⟩
set_option maxHeartbeats 1600000 in
theorem is_no (s : ByteArray) (c : UInt8) (w : World) : Calls Tryd.prog 44 #[.string s, i64 (-1), .int .u8 (c.toNat : Int)] w fun e w' => e = .returned (.bool false) ∧ w' = w := by
  go_enter Tryd.func44, Tryd.ntmps44
  go_wp2_with fail
  go_ret
  exact ⟨rfl, rfl⟩
theorem set2c {V : World} {b : Nat} {x0 x1 : Value} {t : TypeId} (h : V.heap[b]? = some (.cells #[x0, x1] t)) (a0 a1 : Value) : ((V.setCell ⟨b, 0, none⟩ a0).setCell ⟨b, 1, none⟩ a1).heap[b]? = some (.cells #[a0, a1] t) := by
  have h1 := heap_setCell_same V b 0 _ t a0 h
  have h2 := heap_setCell_same _ b 1 _ t a1 h1
  simpa using h2
theorem load76 {W : World} {b : Nat} {k n : Int} (h : W.heap[b]? = some (.cells #[i64 k, i64 n] 76)) : (loadVar 76 ⟨b, 0, none⟩).run Tryd.prog W = .ok (.agg #[i64 k, i64 n]) W := by
  refine run_loadVar_mid _ _ 0 76 [i64 k, i64 n] _ (fun j v hv => ?_) Tryd.underlying76 rfl (by kernel_rfl)
  rw [Nat.zero_add, cell_of_row _ _ _ _ 76 (0, 0) h]
  simpa using hv
/-- What number answers: the number, and where it ends. -/
def numV (l : Bs) (size : Nat) : Int × Int := match numD l with | some (n, r) => ((n : Int), ((size - r.length : Nat) : Int)) | none => (0, -1)
theorem dw_mem (l : Bs) : (l.takeWhile isDig).length ≤ l.length := by
  have := congrArg List.length (List.takeWhile_append_dropWhile (p := isDig) (l := l)); rw [List.length_append] at this; omega
theorem numV_no {l : Bs} {size : Nat} (h : ¬ (numOk (l.takeWhile isDig) = true ∧ (l.takeWhile isDig).length ≤ 3)) : numV l size = (0, -1) := by unfold numV numD; rw [if_neg h]
theorem numV_yes {l : Bs} {size : Nat} (h1 : numOk (l.takeWhile isDig) = true) (h2 : (l.takeWhile isDig).length ≤ 3) : numV l size = (((valD (l.takeWhile isDig) : Nat) : Int), ((size - (l.length - (l.takeWhile isDig).length) : Nat) : Int)) := by
  unfold numV numD
  rw [if_pos ⟨h1, h2⟩]
  simp only [List.length_drop]
theorem tw_exact (l : Bs) (j : Nat) (hp : ∀ c ∈ l.take j, isDig c = true) (hl : j ≤ l.length) (he : j = l.length ∨ ∃ h : j < l.length, isDig l[j] = false) : l.takeWhile isDig = l.take j := by
  have h1 := tw_len isDig l j hp hl
  have h2 : (l.takeWhile isDig).length ≤ j := by
    rcases he with rfl | ⟨h, hd⟩
    · exact dw_mem l
    · exact tw_stop isDig l j h hd
  rw [tw_pre isDig l j h1, List.take_of_length_le h2]
theorem valD_pos {d : Bs} (hp : ∀ c ∈ d, isDig c = true) (h1 : 1 ≤ d.length) (h2 : d.head? ≠ some 48) : 1 ≤ valD d := by
  rcases List.eq_nil_or_concat d with rfl | ⟨d', c, rfl⟩
  · simp at h1
  · rw [List.concat_eq_append] at hp h1 h2 ⊢
    rw [valD_snoc]
    rcases List.eq_nil_or_concat d' with rfl | ⟨d'', c', rfl⟩
    · have hc := hp c (by simp)
      simp only [isDig, Bool.and_eq_true, decide_eq_true_eq] at hc
      have hne : c.toNat ≠ 48 := fun e => h2 (by have : c = 48 := UInt8.toNat_inj.1 e; rw [this]; rfl)
      simp [valD]; omega
    · rw [List.concat_eq_append] at hp h2 ⊢
      have := valD_pos (d := d'' ++ [c']) (fun x hx => hp x (by simp at hx ⊢; rcases hx with hx | hx <;> simp [hx])) (by simp) (fun e => h2 (by
        cases d'' with
        | nil => simpa using e
        | cons y r => simpa using e))
      omega
termination_by d.length
decreasing_by subst_vars; simp
end Go.Proofs.YteecjilknembdaaDoor
