/- What a value's bytes are, and what is read of bytes, plainly; no statement is proved in this text. -/
import Derived.Test.YtihbbgcpdgnhoaaGreatDoorFi0
import Derived.Test.YtihbbgcpdgnhoaaGreatDoorBy
namespace Go.Proofs.YtihbbgcpdgnhoaaGreatDoor

def b8 (n : Int) : UInt8 := UInt8.ofNat n.toNat
mutual
/-- A value's bytes. -/
def wrtV : Vl → Ty → Bs
  | .mk k n s l, T => if k = 1 then b8 k :: tb n.toNat (T.num / 8).toNat else if k = 2 then b8 k :: b8 s.length :: s else b8 k :: b8 l.length :: wrtL l 0 T
def wrtL : List Vl → Nat → Ty → Bs
  | [], _, _ => []
  | v :: r, i, T => wrtV v (kidT T i) ++ wrtL r (i + 1) T
end
/-- A number of so many bytes. -/
def rdN (k : Nat) (b : Bs) : Option (Nat × Bs) := if 1 ≤ k ∧ k ≤ 4 ∧ k ≤ b.length then some (nm (b.take k), b.drop k) else none
/-- How many bytes come, and these. -/
def rdC (k : Nat) (b : Bs) : Option (Bs × Bs) := match rdN k b with
  | none => none
  | some (n, r) => if n ≤ r.length then some (r.take n, r.drop n) else none
/-- So many kids. -/
def rdL (rec : Ty → Bs → Option (Vl × Bs)) (T : Ty) : Nat → Nat → Bs → Option (List Vl × Bs)
  | _, 0, b => some ([], b)
  | i, m + 1, b => match rec (kidT T i) b with
    | none => none
    | some (v, r) => match rdL rec T (i + 1) m r with
      | none => none
      | some (l, q) => some (v :: l, q)
/-- The value of a type. -/
def rdV : Nat → Ty → Bs → Option (Vl × Bs)
  | 0, _, _ => none
  | f + 1, T, b => match rdN 1 b with
    | none => none
    | some (tag, r) =>
      if (tag : Int) ≠ T.kind then none
      else if T.kind = 1 then (match rdN (T.num / 8).toNat r with | none => none | some (n, q) => some (.mk 1 n [] [], q))
      else if T.kind = 2 then (match rdC 1 r with | none => none | some (s, q) => some (.mk 2 0 s [], q))
      else match rdN 1 r with
        | none => none
        | some (m, q) => if T.kind = 4 ∧ m ≠ T.kids.length then none else match rdL (rdV f) T 0 m q with
          | none => none
          | some (l, p) => some (.mk T.kind 0 [] l, p)
theorem nm_one (c : UInt8) : nm [c] = c.toNat := by simp [nm]
theorem rdN_one (c : UInt8) (r : Bs) : rdN 1 (c :: r) = some (c.toNat, r) := by
  unfold rdN
  rw [if_pos ⟨by omega, by omega, by simp⟩]
  simp [nm]
theorem rdN_tb (v k : Nat) (r : Bs) (h1 : 1 ≤ k) (h4 : k ≤ 4) (hv : v < 256 ^ k) : rdN k (tb v k ++ r) = some (v, r) := by
  unfold rdN
  rw [if_pos ⟨h1, h4, by rw [List.length_append, tb_len]; omega⟩]
  rw [List.take_left' (tb_len v k), List.drop_left' (tb_len v k), nm_tb, Nat.mod_eq_of_lt hv]
theorem b8_nat {n : Nat} (h : n < 256) : (b8 (n : Int)).toNat = n := by
  unfold b8
  rw [Int.toNat_natCast, UInt8.toNat_ofNat', Nat.mod_eq_of_lt h]
theorem tb_nm : ∀ (l : Bs), tb (nm l) l.length = l
  | [] => rfl
  | c :: r => by
    have h1 := nm_lt r
    have h2 : nm (c :: r) / 2 ^ (8 * r.length) = c.toNat := by
      rw [nm_cons, show (2 : Nat) ^ (8 * r.length) = 256 ^ r.length by rw [Nat.pow_mul]]
      rw [Nat.add_comm, Nat.add_mul_div_right _ _ (Nat.pos_of_ne_zero (by intro h; rw [h] at h1; omega)), Nat.div_eq_of_lt h1]
      omega
    have h3 : ∀ (a : Nat) (k : Nat), tb (a * 256 ^ k + nm r) k = tb (nm r % 256 ^ k) k → True := fun _ _ _ => trivial
    have h4 : ∀ k, ∀ a b : Nat, a % 256 ^ k = b % 256 ^ k → tb a k = tb b k := by
      intro k
      induction k with
      | zero => intros; rfl
      | succ k ih =>
        intro a b hab
        simp only [tb]
        rw [show (2 : Nat) ^ (8 * k) = 256 ^ k by rw [Nat.pow_mul]]
        congr 1
        · apply UInt8.toNat_inj.1
          rw [UInt8.toNat_ofNat', UInt8.toNat_ofNat']
          rw [Nat.mod_pow_succ, Nat.mod_pow_succ] at hab
          have ha := Nat.mod_lt a (Nat.pos_of_ne_zero (n := 256 ^ k) (by intro h; have := Nat.pow_pos (a := 256) (n := k) (by omega); omega))
          have hb := Nat.mod_lt b (Nat.pos_of_ne_zero (n := 256 ^ k) (by intro h; have := Nat.pow_pos (a := 256) (n := k) (by omega); omega))
          show a / 256 ^ k % 256 = b / 256 ^ k % 256
          generalize a / 256 ^ k % 256 = x at *
          generalize b / 256 ^ k % 256 = y at *
          generalize a % 256 ^ k = p at *
          generalize b % 256 ^ k = q at *
          generalize 256 ^ k = m at *
          rcases Nat.lt_trichotomy x y with h | h | h
          · exfalso
            have : m * (x + 1) ≤ m * y := Nat.mul_le_mul_left m h
            rw [Nat.mul_add, Nat.mul_one] at this
            omega
          · exact h
          · exfalso
            have : m * (y + 1) ≤ m * x := Nat.mul_le_mul_left m h
            rw [Nat.mul_add, Nat.mul_one] at this
            omega
        · refine ih a b ?_
          have e1 : a % 256 ^ (k + 1) % 256 ^ k = a % 256 ^ k := Nat.mod_mod_of_dvd _ ⟨256, by rw [Nat.pow_succ]⟩
          have e2 : b % 256 ^ (k + 1) % 256 ^ k = b % 256 ^ k := Nat.mod_mod_of_dvd _ ⟨256, by rw [Nat.pow_succ]⟩
          rw [← e1, ← e2, hab]
    show UInt8.ofNat (nm (c :: r) / 2 ^ (8 * r.length)) :: tb (nm (c :: r)) r.length = c :: r
    rw [h2, UInt8.ofNat_toNat]
    congr 1
    rw [h4 r.length (nm (c :: r)) (nm r) (by rw [nm_cons, Nat.mul_add_mod_self_right])]
    exact tb_nm r
theorem rdN_back {k : Nat} {b r : Bs} {n : Nat} (h : rdN k b = some (n, r)) : b = tb n k ++ r ∧ n < 256 ^ k ∧ 1 ≤ k ∧ k ≤ 4 := by
  unfold rdN at h
  split at h
  · rename_i hk
    simp only [Option.some.injEq, Prod.mk.injEq] at h
    obtain ⟨rfl, rfl⟩ := h
    have hl : (b.take k).length = k := by rw [List.length_take]; omega
    have h1 := tb_nm (b.take k)
    have h2 := nm_lt (b.take k)
    rw [hl] at h1 h2
    exact ⟨by rw [h1, List.take_append_drop], h2, hk.1, hk.2.1⟩
  · cases h
theorem tb_one (n : Nat) : tb n 1 = [UInt8.ofNat n] := by simp [tb]
theorem rdC_back {b r s : Bs} (h : rdC 1 b = some (s, r)) : b = b8 s.length :: s ++ r ∧ s.length < 256 := by
  unfold rdC at h
  split at h
  · cases h
  · rename_i n q hn
    obtain ⟨rfl, h2, _⟩ := rdN_back hn
    split at h
    · rename_i hl
      simp only [Option.some.injEq, Prod.mk.injEq] at h
      obtain ⟨rfl, rfl⟩ := h
      have hs : (q.take n).length = n := by rw [List.length_take]; omega
      rw [hs, tb_one]
      refine ⟨?_, by omega⟩
      show UInt8.ofNat n :: q = _
      unfold b8
      rw [Int.toNat_natCast, List.cons_append, List.take_append_drop]
    · cases h
theorem rdC_fwd (s r : Bs) (h : s.length < 256) : rdC 1 (b8 s.length :: s ++ r) = some (s, r) := by
  unfold rdC
  rw [List.cons_append, rdN_one, b8_nat h]
  simp only []
  rw [if_pos (by rw [List.length_append]; omega), List.take_left' rfl, List.drop_left' rfl]
/-- What is alone right, told apart. -/
theorem alone_kind {V : Vl} {T : Ty} (h : aloneB V T = true) : V.kind = T.kind := by
  unfold aloneB alB at h
  split at h
  · cases h
  · rename_i hk
    exact Classical.byContradiction hk
theorem node_kind {T : Ty} (h : T.formed = true) : T.kind = 1 ∨ T.kind = 2 ∨ T.kind = 3 ∨ T.kind = 4 := by
  have hn := (formed_node h).1
  unfold nodeB at hn
  by_cases h1 : T.kind = 1
  · exact .inl h1
  by_cases h2 : T.kind = 2
  · exact .inr (.inl h2)
  by_cases h3 : T.kind = 3
  · exact .inr (.inr (.inl h3))
  by_cases h4 : T.kind = 4
  · exact .inr (.inr (.inr h4))
  rw [if_neg h1, if_neg h2, if_neg h3, if_neg h4] at hn
  cases hn
theorem node_1 {T : Ty} (h : T.formed = true) (hk : T.kind = 1) : T.num = 8 ∨ T.num = 16 ∨ T.num = 32 := by
  have hn := (formed_node h).1
  unfold nodeB at hn
  rw [if_pos hk] at hn
  simp only [Bool.and_eq_true, Bool.or_eq_true, decide_eq_true_eq] at hn
  omega
theorem node_2 {T : Ty} (h : T.formed = true) (hk : T.kind = 2) : 0 ≤ T.num ∧ T.num ≤ 255 := by
  have hn := (formed_node h).1
  unfold nodeB at hn
  rw [if_neg (by omega), if_pos hk] at hn
  simp only [Bool.and_eq_true, decide_eq_true_eq] at hn
  omega
theorem node_3 {T : Ty} (h : T.formed = true) (hk : T.kind = 3) : 0 ≤ T.num ∧ T.num ≤ 96 ∧ T.kids.length = 1 := by
  have hn := (formed_node h).1
  unfold nodeB at hn
  rw [if_neg (by omega), if_neg (by omega), if_pos hk] at hn
  simp only [Bool.and_eq_true, decide_eq_true_eq] at hn
  omega
theorem node_4 {T : Ty} (h : T.formed = true) (hk : T.kind = 4) : 1 ≤ T.kids.length ∧ T.kids.length ≤ 12 := by
  have hn := (formed_node h).1
  unfold nodeB at hn
  rw [if_neg (by omega), if_neg (by omega), if_neg (by omega), if_pos hk] at hn
  simp only [Bool.and_eq_true, decide_eq_true_eq] at hn
  omega
end Go.Proofs.YtihbbgcpdgnhoaaGreatDoor
