/- Read of lines of instructions is their bytes, as plain lists; no statement is proved in this text. -/
import Derived.Test.YtobkehlkopkaeaaDoorRoundP
import Derived.Test.YtobkehlkopkaeaaDoorReadWalk
namespace Go.Proofs.YtobkehlkopkaeaaDoor
set_option maxRecDepth 100000

theorem dropSp {pre : Bs} (h : ∀ b ∈ pre, isSp b = true) {l : Bs} : (pre ++ l).dropWhile isSp = l.dropWhile isSp := by
  induction pre with
  | nil => rfl
  | cons c r ih =>
    rw [List.cons_append, List.dropWhile_cons, if_pos (h c (by simp)), ih (fun b hb => h b (by simp [hb]))]
theorem line_head {i : In} (h : isI i = true) : ∃ c t, lineF i = c :: t ∧ isSp c = false := by
  rw [lineF_join]
  exact join_head (words_word h)
theorem split_gen {i : In} (h : isI i = true) {pre tail l : Bs} (hp : ∀ b ∈ pre, isSp b = true) (ht : tail = [] ∨ ∃ t, tail = 32 :: t ∧ t.dropWhile isSp = []) (hl : semi l = pre ++ (lineF i ++ tail)) : splitF l = wordsOf i := by
  unfold splitF
  rw [hl, dropSp hp]
  obtain ⟨c, t, hc, hs⟩ := line_head h
  have e : (lineF i ++ tail).dropWhile isSp = lineF i ++ tail := by
    rw [hc, List.cons_append, List.dropWhile_cons, hs]
    simp
  have := words_join (wordsOf i) 4 (words_len i) (words_word h) tail ht
  rw [if_neg (by simp [wordsOf])] at this
  rw [e, lineF_join, this]
theorem joinW_mem : ∀ (ws : List Bs) (b : UInt8), b ∈ joinW ws → b = 32 ∨ ∃ x ∈ ws, b ∈ x
  | [], b, h => by simp [joinW] at h
  | [x], b, h => Or.inr ⟨x, by simp, h⟩
  | x :: y :: r, b, h => by
    rw [show joinW (x :: y :: r) = x ++ 32 :: joinW (y :: r) from rfl] at h
    rcases List.mem_append.1 h with h | h
    · exact Or.inr ⟨x, by simp, h⟩
    · rcases List.mem_cons.1 h with rfl | h
      · exact Or.inl rfl
      · rcases joinW_mem (y :: r) b h with h | ⟨z, hz, hb⟩
        · exact Or.inl h
        · exact Or.inr ⟨z, by simp at hz ⊢; exact Or.inr hz, hb⟩
theorem line_mem {i : In} (h : isI i = true) : ∀ b ∈ lineF i, b ≠ 59 ∧ b ≠ 10 ∧ b.toNat < 128 := by
  intro b hb
  rw [lineF_join] at hb
  rcases joinW_mem _ b hb with rfl | ⟨x, hx, hb⟩
  · decide
  · exact ((words_word h x hx).2 b hb).2
theorem tw_all2 (c : UInt8) : ∀ (l r : Bs), (∀ b ∈ l, b ≠ c) → (l ++ c :: r).takeWhile (fun b => b != c) = l
  | [], r, _ => by simp
  | b :: l, r, h => by
    have hb := h b (by simp)
    rw [List.cons_append, List.takeWhile_cons, if_pos (by simpa using hb), tw_all2 c l r (fun b hb => h b (by simp [hb]))]
theorem semi_none {l : Bs} (h : ∀ b ∈ l, b ≠ 59) : semi l = l := tw_all 59 l (fun hm => h 59 hm rfl)
theorem semi_some {l r : Bs} (h : ∀ b ∈ l, b ≠ 59) : semi (l ++ 59 :: r) = l := tw_all2 59 l r h
theorem lns_line : ∀ (l r : Bs), (∀ b ∈ l, b ≠ 10) → lns (l ++ 10 :: r) = l :: lns r
  | [], r, _ => by simp [lns]
  | b :: l, r, h => by
    have hb := h b (by simp)
    rw [List.cons_append]
    conv => lhs; unfold lns
    rw [if_neg hb, lns_line l r (fun b hb => h b (by simp [hb]))]
theorem lab_none {i : In} (h : isI i = true) : labF (wordsOf i) = none := by
  obtain ⟨h1, _⟩ := isI_out h
  obtain ⟨k, hk⟩ := Int.eq_ofNat_of_zero_le h1.1
  unfold wordsOf
  cases ha : argsOf i with
  | cons y r => rfl
  | nil =>
    rw [hk, Int.toNat_natCast]
    have hk2 : k < 21 := by omega
    clear ha h h1 hk
    revert k
    decide +kernel
theorem op_nm : ∀ k : Nat, k < 21 → opOf (nmOf k) = some k := by decide +kernel
theorem reg_itoa {a : Nat} (h : a ≤ 7) : regF (114 :: Lib.itoa (a : Int)) = some a := by
  rw [Lib.itoa_nonneg, Lib.decDigits, dif_pos (by omega)]
  have : ∀ a : Nat, a ≤ 7 → regF [114, UInt8.ofNat (48 + a)] = some a := by decide +kernel
  exact this a h
theorem num_itoa {n : Nat} (h : n ≤ 65535) : numF (Lib.itoa (n : Int)) = some n := by
  obtain ⟨h1, h2, h3⟩ := dig_word n
  rw [Lib.itoa_nonneg]
  unfold numF within
  have hl : (Lib.decDigits n).length ≤ 5 := by
    rw [Lib.decDigits_length]
    by_cases a1 : n < 10
    · rw [Lib.nDigits_small a1]; omega
    · rw [Lib.nDigits_big a1]
      by_cases a2 : n / 10 < 10
      · rw [Lib.nDigits_small a2]; omega
      · rw [Lib.nDigits_big a2]
        by_cases a3 : n / 10 / 10 < 10
        · rw [Lib.nDigits_small a3]; omega
        · rw [Lib.nDigits_big a3]
          by_cases a4 : n / 10 / 10 / 10 < 10
          · rw [Lib.nDigits_small a4]; omega
          · rw [Lib.nDigits_big a4, Lib.nDigits_small (by omega)]; omega
  have hp : 1 ≤ (Lib.decDigits n).length := List.length_pos_iff.2 h2
  have ha : (Lib.decDigits n).all (fun b => decide (48 ≤ b.toNat ∧ b.toNat ≤ 57)) = true := List.all_eq_true.2 fun b hb => decide_eq_true (h1 b hb)
  rw [ha, h3]
  simp [hl, hp]
theorem enc_args {i : In} (h : isI i = true) (a : Nat) : encF i.op.toNat (argsOf i) a [] = some (plain i) := by
  obtain ⟨h1, h2, h3, h4, h5, h6, h7⟩ := isI_out h
  obtain ⟨op, x, y, n⟩ := i
  simp only at *
  obtain ⟨k, rfl⟩ := Int.eq_ofNat_of_zero_le h1.1
  obtain ⟨x, rfl⟩ := Int.eq_ofNat_of_zero_le h2.1
  obtain ⟨y, rfl⟩ := Int.eq_ofNat_of_zero_le h3.1
  obtain ⟨n, rfl⟩ := Int.eq_ofNat_of_zero_le h4
  have hk : k < 21 := by omega
  simp only [Int.toNat_natCast] at *
  have rx := reg_itoa (a := x) (by omega)
  have ry := reg_itoa (a := y) (by omega)
  have hI : encI k (argsOf ⟨k, x, y, n⟩) a [] = some ⟨k, x, y, n⟩ := by
    unfold encI argsOf fNums
    simp only [Int.toNat_natCast]
    rcases cls k hk with ⟨c1, c2⟩ | ⟨c1, c2⟩ | ⟨c1, c2⟩ | ⟨c1, c2⟩ | ⟨c1, c2⟩
    · obtain rfl : x = 0 := by have := h5 c1; omega
      obtain rfl : y = 0 := by have := h6 (by omega); omega
      obtain rfl : n = 0 := by rw [c2] at h7; omega
      simp [c1, c2, regsF]
    · obtain rfl : y = 0 := by have := h6 (by omega); omega
      have rn := num_itoa (n := n) (by rw [c2] at h7; omega)
      simp [c1, c2, regsF, rx, numW, lookL, rn]
    · obtain rfl : n = 0 := by rw [c2] at h7; omega
      simp [c1, c2, regsF, rx, ry]
    · obtain rfl : x = 0 := by have := h5 c1; omega
      obtain rfl : y = 0 := by have := h6 (by omega); omega
      have rn := num_itoa (n := n) (by rw [c2] at h7; omega)
      simp [c1, c2, regsF, numW, lookL, rn]
    · obtain rfl : x = 0 := by have := h5 c1; omega
      obtain rfl : y = 0 := by have := h6 (by omega); omega
      have rn := num_itoa (n := n) (by rw [c2] at h7; omega)
      simp [c1, c2, regsF, numW, lookL, rn]
  unfold encF
  rw [hI]
  simp only [h, if_true]
/-- Rows of which those that are not empty are the words of the instructions. -/
def RowsAre (R : List (List Bs)) (xs : List In) : Prop := R.filter (fun ws => !ws.isEmpty) = xs.map wordsOf
theorem sv_plain : ∀ (R : List (List Bs)) (num : Nat) (s : Sv) (xs : List In), RowsAre R xs → (∀ i ∈ xs, isI i = true) → s.M = [] → s.long = 0 → s.place + (xs.flatMap plain).length ≤ 256 → (svF R num s).M = [] ∧ (svF R num s).long = 0
  | [], _, _, _, _, _, hm, hl, _ => ⟨hm, hl⟩
  | [] :: R, num, s, xs, hR, hI, hm, hl, hp => by
    have hR' : RowsAre R xs := by unfold RowsAre at hR ⊢; simpa using hR
    have e : svLong num (svAdd num [] s) = s := by
      unfold svLong
      rw [show svAdd num [] s = s from rfl, if_neg (by omega)]
    have e2 : svF ([] :: R) num s = svF R (num + 1) s := by
      show svF R (num + 1) (svLong num (svAdd num [] s)) = _
      rw [e]
    rw [e2]
    exact sv_plain R (num + 1) s xs hR' hI hm hl hp
  | (z :: t) :: R, num, s, [], hR, _, _, _, _ => by unfold RowsAre at hR; simp at hR
  | (z :: t) :: R, num, s, i :: xs, hR, hI, hm, hl, hp => by
    unfold RowsAre at hR
    simp only [List.filter_cons, List.isEmpty_cons, Bool.not_false, if_true, List.map_cons, List.cons.injEq] at hR
    have hi := hI i (by simp)
    have hlab := lab_none hi
    have hz : z = nmOf i.op.toNat := by have := hR.1; unfold wordsOf at this; simp at this; exact this.1
    obtain ⟨h1, _⟩ := isI_out hi
    have hsz : szOf z = (plain i).length := by rw [hz, plain_len]; unfold szOf; rw [op_nm _ (by omega)]
    simp only [List.flatMap_cons, List.length_append] at hp
    have e : svLong num (svAdd num (z :: t) s) = ⟨s.M, s.place + szOf z, s.long⟩ := by
      have e1 : svAdd num (z :: t) s = ⟨s.M, s.place + szOf z, s.long⟩ := by unfold svAdd; rw [hR.1, hlab, ← hR.1]
      unfold svLong
      rw [e1, if_neg (by simp only; omega)]
    have e2 : svF ((z :: t) :: R) num s = svF R (num + 1) ⟨s.M, s.place + szOf z, s.long⟩ := by
      show svF R (num + 1) (svLong num (svAdd num (z :: t) s)) = _
      rw [e]
    rw [e2]
    exact sv_plain R (num + 1) _ xs hR.2 (fun j hj => hI j (by simp [hj])) hm hl (by simp only; omega)
theorem rd_plain : ∀ (R : List (List Bs)) (num : Nat) (o : Bs) (xs : List In), RowsAre R xs → (∀ i ∈ xs, isI i = true) → rdF [] R num o = .inl (o ++ xs.flatMap plain)
  | [], _, o, xs, hR, _ => by
    unfold RowsAre at hR
    have : xs = [] := by simpa using hR.symm
    subst this
    simp [rdF]
  | [] :: R, num, o, xs, hR, hI => by
    rw [rdF_nil]
    exact rd_plain R (num + 1) o xs (by unfold RowsAre at hR ⊢; simpa using hR) hI
  | (z :: t) :: R, num, o, [], hR, _ => by unfold RowsAre at hR; simp at hR
  | (z :: t) :: R, num, o, i :: xs, hR, hI => by
    unfold RowsAre at hR
    simp only [List.filter_cons, List.isEmpty_cons, Bool.not_false, if_true, List.map_cons, List.cons.injEq] at hR
    have hi := hI i (by simp)
    obtain ⟨h1, _⟩ := isI_out hi
    have hlab : labF (z :: t) = none := by rw [hR.1]; exact lab_none hi
    have hw := hR.1
    unfold wordsOf at hw
    simp only [List.cons.injEq] at hw
    rw [rdF_op hlab, hw.1, op_nm _ (by omega)]
    simp only
    rw [hw.2, enc_args hi]
    simp only
    rw [rd_plain R (num + 1) _ xs hR.2 (fun j hj => hI j (by simp [hj]))]
    simp
theorem read_plain {text : Bs} {xs : List In} (hR : RowsAre (rowsF text) xs) (hI : ∀ i ∈ xs, isI i = true) (hl : (xs.flatMap plain).length ≤ 256) : readR text = (xs.flatMap plain, 0) := by
  obtain ⟨hM, hL⟩ := sv_plain (rowsF text) 1 ⟨[], 0, 0⟩ xs hR hI rfl rfl (by simpa using hl)
  unfold readR
  have e1 : (svT text).M = [] := hM
  have e2 : (svT text).long = 0 := hL
  rw [e1, e2, rd_plain (rowsF text) 1 [] xs hR hI]
  simp
/-- The text of the law: each line, and its end. -/
def textOf (xs : List In) : Bs := xs.flatMap (fun i => lineF i ++ [10])
theorem lns_text : ∀ xs : List In, (∀ i ∈ xs, isI i = true) → lns (textOf xs) = xs.map lineF ++ [[]]
  | [], _ => rfl
  | i :: xs, h => by
    have hi := line_mem (h i (by simp))
    have e : textOf (i :: xs) = lineF i ++ 10 :: textOf xs := by unfold textOf; simp
    rw [e, lns_line _ _ (fun b hb => (hi b hb).2.1), lns_text xs (fun j hj => h j (by simp [hj]))]
    rfl
theorem split_line {i : In} (h : isI i = true) : splitF (lineF i) = wordsOf i :=
  split_gen h (pre := []) (tail := []) (by simp) (Or.inl rfl) (by rw [semi_none (fun b hb => (line_mem h b hb).1)]; simp)
theorem back_read {xs : List In} (hI : ∀ i ∈ xs, isI i = true) (hl : (xs.flatMap plain).length ≤ 256) : readR (textOf xs) = (xs.flatMap plain, 0) ∧ Pln (textOf xs) := by
  have hln := lns_text xs hI
  refine ⟨read_plain ?_ hI hl, ?_⟩
  · unfold RowsAre rowsF
    rw [hln, List.map_append, List.filter_append]
    have e1 : ((xs.map lineF).map splitF) = xs.map wordsOf := by
      rw [List.map_map]
      exact List.map_congr_left fun i hi => split_line (hI i hi)
    rw [e1]
    have e2 : (xs.map wordsOf).filter (fun ws => !ws.isEmpty) = xs.map wordsOf := by
      rw [List.filter_eq_self]
      intro ws hw
      obtain ⟨i, _, rfl⟩ := List.mem_map.1 hw
      rfl
    rw [e2]
    simp [splitF, semi, wordsF]
  · intro l hl b hb
    rw [hln] at hl
    rcases List.mem_append.1 hl with hl | hl
    · obtain ⟨i, hi, rfl⟩ := List.mem_map.1 hl
      have hb2 : b ∈ lineF i := (List.takeWhile_sublist _).subset hb
      exact (line_mem (hI i hi) b hb2).2.2
    · obtain rfl : l = [] := by simpa using hl
      simp [semi] at hb
end Go.Proofs.YtobkehlkopkaeaaDoor
