/- The table of shapes; code's isOp, isRegister, isInst, Size, and the document's regs, num, Size, Is: their contracts; no statement is proved in this text. -/
import Derived.Test.YtobkehlkopkaeaaDoorBits
namespace Go.Proofs.YtobkehlkopkaeaaDoor
open Go.ChangeShapes Go.WideShapes Go.ChangeAt Go.RowKit
set_option maxRecDepth 100000

/-- The table of shapes lies in its variable. -/
def Tab (w : World) : Prop := ∀ k, k < 21 → w.cell? ⟨1, k * 2, none⟩ = some (.int .i64 (rg k : Nat)) ∧ w.cell? ⟨1, k * 2 + 1, none⟩ = some (.int .i64 (nb k : Nat))
theorem Tab.drewN {w : World} (h : Tab w) (n : Nat) : Tab (w.drewN n) := fun i hi => by simpa using h i hi
theorem Tab.below {w w' : World} (h : Tab w) (hb : Below w.heap.size w w') : Tab w' := fun i hi => by
  rw [hb.cell (World.block_lt_of_cell? w _ (h i hi).1), hb.cell (World.block_lt_of_cell? w _ (h i hi).2)]; exact h i hi
theorem Tab.alloc {w : World} (h : Tab w) (o : Obj) : Tab (w.alloc o) := h.below ((Below.refl _ _).alloc (Nat.le_refl _) o)
theorem Tab.pos {w : World} (h : Tab w) : 1 < w.heap.size := World.block_lt_of_cell? w _ (h 0 (by omega)).1

abbrev i64 (n : Int) : Value := .int .i64 n
abbrev inV (i : In) : Value := .agg #[i64 i.op, i64 i.a, i64 i.b, i64 i.n]

def isO (op : Int) : Bool := decide (0 ≤ op ∧ op ≤ 20)
def isR (r : Int) (named : Bool) : Bool := if named then decide (0 ≤ r ∧ r ≤ 7) else decide (r = 0)
theorem isI_eq (i : In) (h : 0 ≤ i.op ∧ i.op ≤ 20) : isI i = (isR i.a (decide (0 < rg i.op.toNat)) && (isR i.b (decide (1 < rg i.op.toNat)) && (decide (0 ≤ i.n) && decide (i.n < 256 ^ nb i.op.toNat)))) := by
  rw [Bool.eq_iff_iff]
  unfold isI isR
  by_cases h0 : 0 < rg i.op.toNat <;> by_cases h1 : 1 < rg i.op.toNat <;> simp [h0, h1, h] <;> omega
theorem isI_no {i : In} (h : ¬ (0 ≤ i.op ∧ i.op ≤ 20)) : isI i = false := by
  unfold isI
  exact decide_eq_false (fun hh => h hh.1)

set_option maxHeartbeats 400000 in
theorem isOp_ok (w : World) (op : Int) : Calls Tryd.prog 62 #[i64 op] w fun e w' => e = .returned (.bool (isO op)) ∧ w' = w := by
  by_cases h : 0 ≤ op
  · go_enter Tryd.func62, Tryd.ntmps62
    go_wp2
    go_ret
    exact ⟨congrArg (fun b => Ending.returned (Value.bool b)) (by unfold isO; rw [decide_eq_decide]; omega), rfl⟩
  · go_enter Tryd.func62, Tryd.ntmps62
    go_wp2
    go_ret
    exact ⟨congrArg (fun b => Ending.returned (Value.bool b)) (by simp [isO]; omega), rfl⟩
set_option maxHeartbeats 400000 in
theorem isReg_ok (w : World) (r : Int) (b : Bool) : Calls Tryd.prog 64 #[i64 r, .bool b] w fun e w' => e = .returned (.bool (isR r b)) ∧ w' = w := by
  cases b
  · go_enter Tryd.func64, Tryd.ntmps64
    go_wp2
    go_ret
    exact ⟨congrArg (fun b => Ending.returned (Value.bool b)) (by unfold isR; rw [if_neg (by decide)]; rfl), rfl⟩
  · by_cases h : 0 ≤ r
    · go_enter Tryd.func64, Tryd.ntmps64
      go_wp2
      go_ret
      exact ⟨congrArg (fun b => Ending.returned (Value.bool b)) (by unfold isR; rw [if_pos rfl, decide_eq_decide]; omega), rfl⟩
    · go_enter Tryd.func64, Tryd.ntmps64
      go_wp2
      go_ret
      exact ⟨congrArg (fun b => Ending.returned (Value.bool b)) (by simp [isR]; omega), rfl⟩

set_option maxHeartbeats 400000 in
theorem size_ok (w : World) (ht : Tab w) (op : Int) : Calls Tryd.prog 40 #[i64 op] w fun e w' => e = .returned (i64 (szI op)) ∧ w' = w := by
  by_cases h : 0 ≤ op ∧ op ≤ 20
  · obtain ⟨k, rfl⟩ := Int.eq_ofNat_of_zero_le h.1
    have ho : isO (k : Int) = true := by simp [isO]; omega
    obtain ⟨c1, c2⟩ := ht k (by omega)
    have hs : szI (k : Int) = 1 + (rc k : Int) + (nb k : Int) := by unfold szI; rw [if_pos h]; unfold sz; simp
    have HS : Hid (szI (k : Int) = 1 + (rc k : Int) + (nb k : Int)) := hs
    have hrc : rc k = if 0 < rg k then 1 else 0 := rfl
    have HR : Hid (rc k = if 0 < rg k then 1 else 0) := hrc
    have hk : k < 21 := by omega
    have hkI : (k : Int) < 21 := by omega
    have h2 := nb_le k
    have h3 := rg_le k
    clear ht hs hrc h
    generalize rg k = r at *
    generalize nb k = m at *
    by_cases hr : 0 < r
    · go_enter Tryd.func40, Tryd.ntmps40
      go_wp2_with (go_at_call 62; refine (isOp_ok _ _).mono ?_; rintro e w1 ⟨rfl, rfl⟩)
      go_ret
      exact ⟨congrArg (fun n => Ending.returned (i64 n)) (by rw [HS.out, HR.out, if_pos hr]; omega), rfl⟩
    · go_enter Tryd.func40, Tryd.ntmps40
      go_wp2_with (go_at_call 62; refine (isOp_ok _ _).mono ?_; rintro e w1 ⟨rfl, rfl⟩)
      go_ret
      exact ⟨congrArg (fun n => Ending.returned (i64 n)) (by rw [HS.out, HR.out, if_neg hr]; omega), rfl⟩
  · have ho : isO op = false := by simp [isO]; omega
    have hs : szI op = 0 := by unfold szI; rw [if_neg h]
    have HS : Hid (szI op = 0) := hs
    clear ht hs h
    go_enter Tryd.func40, Tryd.ntmps40
    go_wp2_with (go_at_call 62; refine (isOp_ok _ _).mono ?_; rintro e w1 ⟨rfl, rfl⟩)
    go_ret
    exact ⟨congrArg (fun n => Ending.returned (i64 n)) HS.out.symm, rfl⟩

set_option maxHeartbeats 400000 in
theorem isInst_no (w : World) (i : In) (h : ¬ (0 ≤ i.op ∧ i.op ≤ 20)) : Calls Tryd.prog 42 #[inV i] w fun e w' => e = .returned (.bool (isI i)) ∧ Below w.heap.size w w' := by
  rw [isI_no h]
  have ho : isO i.op = false := by unfold isO; exact decide_eq_false h
  clear h
  go_enter Tryd.func42, Tryd.ntmps42
  go_wp2_with (go_at_call 62; refine (isOp_ok _ _).mono ?_; rintro e w1 ⟨rfl, rfl⟩)
  go_ret
  exact ⟨rfl, (Below.refl _ _).alloc (Nat.le_refl _) _⟩

set_option maxHeartbeats 1600000 in
theorem isInst_yes (w : World) (ht : Tab w) (k : Nat) (a b n : Int) (h : k < 21) (m M : Nat) (hm : nb k = m) (hM : (m = 0 ∧ M = 0) ∨ (m = 1 ∧ M = 255) ∨ (m = 2 ∧ M = 65535)) : Calls Tryd.prog 42 #[inV ⟨k, a, b, n⟩] w fun e w' => e = .returned (.bool (isR a (decide (0 < rg k)) && (isR b (decide (1 < rg k)) && (decide (0 ≤ n) && decide (n ≤ M))))) ∧ Below w.heap.size w w' := by
  have ho : isO (k : Int) = true := by unfold isO; exact decide_eq_true (by omega)
  obtain ⟨c1, c2⟩ := ht k h
  rw [hm] at c2
  have hp := ht.pos
  have hkI : (k : Int) < 21 := by omega
  have h3 := rg_le k
  clear ht hm
  generalize rg k = r at *
  have g1 : decide ((0 : Int) < (r : Int)) = decide (0 < r) := by rw [decide_eq_decide]; omega
  have g2 : decide ((1 : Int) < (r : Int)) = decide (1 < r) := by rw [decide_eq_decide]; omega
  have H1 : Hid (isR a (decide (0 < r)) = isR a (decide (0 < r))) := rfl
  obtain ⟨R1, hR1⟩ : ∃ R1, isR a (decide (0 < r)) = R1 := ⟨_, rfl⟩
  obtain ⟨R2, hR2⟩ : ∃ R2, isR b (decide (1 < r)) = R2 := ⟨_, rfl⟩
  rw [hR1, hR2]
  have K1 : Hid (isR a (decide (0 < r)) = R1) := hR1
  have K2 : Hid (isR b (decide (1 < r)) = R2) := hR2
  clear hR1 hR2 H1
  rcases hM with ⟨rfl, rfl⟩ | ⟨rfl, rfl⟩ | ⟨rfl, rfl⟩
  all_goals
    go_enter Tryd.func42, Tryd.ntmps42
    go_wp2_with (go_at_call 62; refine (isOp_ok _ _).mono ?_; rintro e w1 ⟨rfl, rfl⟩)
    refine (isReg_ok _ _ _).mono ?_
    rintro e w2 ⟨he, rfl⟩
    rw [K1.out] at he
    subst he
    cases R1
    · go_wp2_with fail
      go_ret
      exact ⟨rfl, by repeat (first | exact Below.refl _ _ | refine Below.setCell ?_ (by simp) _ | refine Below.alloc ?_ (by simp) _)⟩
    go_wp2_with fail
    refine (isReg_ok _ _ _).mono ?_
    rintro e w2 ⟨he, rfl⟩
    rw [K2.out] at he
    subst he
    cases R2
    · go_wp2_with fail
      go_ret
      exact ⟨rfl, by repeat (first | exact Below.refl _ _ | refine Below.setCell ?_ (by simp) _ | refine Below.alloc ?_ (by simp) _)⟩
    by_cases hn : 0 ≤ n
    · go_wp2_with fail
      go_ret
      exact ⟨congrArg (fun b => Ending.returned (Value.bool b)) (by simp [hn]), by repeat (first | exact Below.refl _ _ | refine Below.setCell ?_ (by simp) _ | refine Below.alloc ?_ (by simp) _)⟩
    · go_wp2_with fail
      go_ret
      exact ⟨congrArg (fun b => Ending.returned (Value.bool b)) (by rw [decide_eq_false (show ¬ 0 ≤ n by omega)]; rfl), by repeat (first | exact Below.refl _ _ | refine Below.setCell ?_ (by simp) _ | refine Below.alloc ?_ (by simp) _)⟩
theorem isInst_ok (w : World) (ht : Tab w) (i : In) : Calls Tryd.prog 42 #[inV i] w fun e w' => e = .returned (.bool (isI i)) ∧ Below w.heap.size w w' := by
  by_cases h : 0 ≤ i.op ∧ i.op ≤ 20
  · rw [isI_eq i h]
    obtain ⟨op, a, b, n⟩ := i
    obtain ⟨k, rfl⟩ := Int.eq_ofNat_of_zero_le h.1
    have hm := nb_le k
    obtain ⟨M, hM, hd⟩ : ∃ M : Nat, ((nb k = 0 ∧ M = 0) ∨ (nb k = 1 ∧ M = 255) ∨ (nb k = 2 ∧ M = 65535)) ∧ decide (n < 256 ^ nb k) = decide (n ≤ M) := by
      rcases (show nb k = 0 ∨ nb k = 1 ∨ nb k = 2 by omega) with h | h | h
      · exact ⟨0, Or.inl ⟨h, rfl⟩, by rw [h, decide_eq_decide]; omega⟩
      · exact ⟨255, Or.inr (Or.inl ⟨h, rfl⟩), by rw [h, decide_eq_decide]; omega⟩
      · exact ⟨65535, Or.inr (Or.inr ⟨h, rfl⟩), by rw [h, decide_eq_decide]; omega⟩
    simp only [Int.toNat_natCast]
    rw [hd]
    simp only at h
    exact isInst_yes w ht k a b n (by omega) (nb k) M rfl hM
  · exact isInst_no w i h

/-! ### The document's -/
def rgI (op : Int) : Int := if 0 ≤ op ∧ op ≤ 20 then (rg op.toNat : Int) else -1
def nbI (op : Int) : Int := if 0 ≤ op ∧ op ≤ 20 then (nb op.toNat : Int) else 0
theorem rgI_eq (op : Int) : rgI op = if op = 0 ∨ op = 17 ∨ op = 20 then 0 else if op = 1 ∨ op = 18 ∨ op = 19 then 1 else if 1 < op ∧ op < 17 then 2 else -1 := by
  unfold rgI
  by_cases h : 0 ≤ op ∧ op ≤ 20
  · obtain ⟨k, rfl⟩ := Int.eq_ofNat_of_zero_le h.1
    rw [if_pos h, Int.toNat_natCast]
    have hall : ∀ k : Nat, k < 21 → ((rg k : Nat) : Int) = if (k : Int) = 0 ∨ (k : Int) = 17 ∨ (k : Int) = 20 then 0 else if (k : Int) = 1 ∨ (k : Int) = 18 ∨ (k : Int) = 19 then 1 else if 1 < (k : Int) ∧ (k : Int) < 17 then 2 else -1 := by decide
    exact hall k (by omega)
  · rw [if_neg h, if_neg (by omega), if_neg (by omega), if_neg (by omega)]
theorem nbI_eq (op : Int) : nbI op = if op = 1 ∨ op = 17 ∨ op = 18 ∨ op = 19 then 2 else if op = 20 then 1 else 0 := by
  unfold nbI
  by_cases h : 0 ≤ op ∧ op ≤ 20
  · obtain ⟨k, rfl⟩ := Int.eq_ofNat_of_zero_le h.1
    rw [if_pos h, Int.toNat_natCast]
    have hall : ∀ k : Nat, k < 21 → ((nb k : Nat) : Int) = if (k : Int) = 1 ∨ (k : Int) = 17 ∨ (k : Int) = 18 ∨ (k : Int) = 19 then 2 else if (k : Int) = 20 then 1 else 0 := by decide
    exact hall k (by omega)
  · rw [if_neg h, if_neg (by omega), if_neg (by omega)]
set_option maxHeartbeats 800000 in
theorem regs_ok (w : World) (op : Int) : Calls Tryd.prog 57 #[i64 op] w fun e w' => e = .returned (i64 (rgI op)) ∧ w' = w := by
  have hr := rgI_eq op
  have HR : Hid (rgI op = if op = 0 ∨ op = 17 ∨ op = 20 then 0 else if op = 1 ∨ op = 18 ∨ op = 19 then 1 else if 1 < op ∧ op < 17 then 2 else -1) := hr
  clear hr
  generalize rgI op = R at *
  by_cases h1 : 1 < op
  all_goals
    go_enter Tryd.func57, Tryd.ntmps57
    go_wp2
    all_goals
      go_ret
      refine ⟨congrArg (fun n => Ending.returned (i64 n)) ?_, rfl⟩
      rw [HR.out]
      simp only [beq_iff_eq, beq_eq_false_iff_ne, ne_eq] at *
      split <;> first | omega | (split <;> first | omega | (split <;> omega))
set_option maxHeartbeats 800000 in
theorem num_calls (w : World) (op : Int) : Calls Tryd.prog 58 #[i64 op] w fun e w' => e = .returned (i64 (nbI op)) ∧ w' = w := by
  have hr := nbI_eq op
  have HR : Hid (nbI op = if op = 1 ∨ op = 17 ∨ op = 18 ∨ op = 19 then 2 else if op = 20 then 1 else 0) := hr
  clear hr
  generalize nbI op = R at *
  go_enter Tryd.func58, Tryd.ntmps58
  go_wp2
  all_goals
    go_ret
    refine ⟨congrArg (fun n => Ending.returned (i64 n)) ?_, rfl⟩
    rw [HR.out]
    simp only [beq_iff_eq, beq_eq_false_iff_ne, ne_eq] at *
    split <;> first | omega | (split <;> omega)
theorem szI_eq (op : Int) : szI op = if rgI op < 0 then 0 else if 0 < rgI op then 2 + nbI op else 1 + nbI op := by
  unfold szI rgI nbI
  by_cases h : 0 ≤ op ∧ op ≤ 20
  · rw [if_pos h, if_pos h, if_pos h, if_neg (by omega)]
    unfold sz rc
    by_cases h2 : 0 < rg op.toNat
    · rw [if_pos h2, if_pos (by omega)]; omega
    · rw [if_neg h2, if_neg (by omega)]; omega
  · rw [if_neg h, if_neg h, if_pos (by omega)]
theorem rgI_bd (op : Int) : -1 ≤ rgI op ∧ rgI op ≤ 2 := by
  have := rg_le op.toNat
  unfold rgI
  split <;> omega
theorem nbI_bd (op : Int) : 0 ≤ nbI op ∧ nbI op ≤ 2 := by
  have := nb_le op.toNat
  unfold nbI
  split <;> omega
set_option maxHeartbeats 800000 in
theorem rsize_ok (w : World) (op : Int) : Calls Tryd.prog 56 #[i64 op] w fun e w' => e = .returned (i64 (szI op)) ∧ w' = w := by
  have hs := szI_eq op
  have HS : Hid (szI op = if rgI op < 0 then 0 else if 0 < rgI op then 2 + nbI op else 1 + nbI op) := hs
  have h1 := rgI_bd op
  have h2 := nbI_bd op
  have HN : Hid (∀ w, Calls Tryd.prog 58 #[i64 op] w fun e w' => e = .returned (i64 (nbI op)) ∧ w' = w) := fun w => num_calls w op
  have HG : Hid (∀ w, Calls Tryd.prog 57 #[i64 op] w fun e w' => e = .returned (i64 (rgI op)) ∧ w' = w) := fun w => regs_ok w op
  clear hs
  generalize szI op = S at *
  generalize rgI op = R at *
  generalize nbI op = M at *
  by_cases hR : R < 0
  · go_enter Tryd.func56, Tryd.ntmps56
    go_wp2_with (first | (go_at_call 57; refine (HG.out _).mono ?_; rintro e w1 ⟨rfl, rfl⟩) | (go_at_call 58; refine (HN.out _).mono ?_; rintro e w1 ⟨rfl, rfl⟩))
    go_ret
    exact ⟨congrArg (fun n => Ending.returned (i64 n)) (by rw [HS.out, if_pos hR]), rfl⟩
  · by_cases hR0 : 0 < R
    · go_enter Tryd.func56, Tryd.ntmps56
      go_wp2_with (first | (go_at_call 57; refine (HG.out _).mono ?_; rintro e w1 ⟨rfl, rfl⟩) | (go_at_call 58; refine (HN.out _).mono ?_; rintro e w1 ⟨rfl, rfl⟩))
      go_ret
      exact ⟨congrArg (fun n => Ending.returned (i64 n)) (by rw [HS.out, if_neg (show ¬ R < 0 by omega), if_pos hR0]), rfl⟩
    · go_enter Tryd.func56, Tryd.ntmps56
      go_wp2_with (first | (go_at_call 57; refine (HG.out _).mono ?_; rintro e w1 ⟨rfl, rfl⟩) | (go_at_call 58; refine (HN.out _).mono ?_; rintro e w1 ⟨rfl, rfl⟩))
      go_ret
      exact ⟨congrArg (fun n => Ending.returned (i64 n)) (by rw [HS.out, if_neg (show ¬ R < 0 by omega), if_neg (show ¬ 0 < R by omega)]; omega), rfl⟩
end Go.Proofs.YtobkehlkopkaeaaDoor
