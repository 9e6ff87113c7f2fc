/- The table of forms; asm's sizeOf and Name: their contracts; no statement is proved in this text. -/
import Derived.Test.YtobkehlkopkaeaaDoorSplit
import Derived.Deep.MidRow
import Derived.Shelf.Unicode.PredsPay
namespace Go.Proofs.YtobkehlkopkaeaaDoor
open Go.ChangeShapes Go.WideShapes Go.ChangeAt Go.RowKit
set_option maxRecDepth 100000

abbrev formV (k : Nat) : Value := .agg #[str (nmOf k), i64 (rg k : Nat), i64 (fNums k : Nat), .bool (fLab k)]
def fcells : List Value := (List.range 21).flatMap fun k => [str (nmOf k), i64 (rg k : Nat), i64 (fNums k : Nat), .bool (fLab k)]
theorem fcells_at : ∀ k : Nat, k < 21 → fcells[k * 4]? = some (str (nmOf k)) ∧ fcells[k * 4 + 1]? = some (i64 (rg k : Nat)) ∧ fcells[k * 4 + 2]? = some (i64 (fNums k : Nat)) ∧ fcells[k * 4 + 3]? = some (.bool (fLab k)) := by
  intro k hk
  rcases k with _|_|_|_|_|_|_|_|_|_|_|_|_|_|_|_|_|_|_|_|_|k
  all_goals first
    | omega
    | exact ⟨rfl, rfl, rfl, rfl⟩
theorem fidx (w : World) : ∀ k : Nat, k < 21 → (Instr.index 59 (.agg fcells.toArray) (i64 k)).run Tryd.prog w = .ok (formV k) w := by
  intro k hk
  rcases k with _|_|_|_|_|_|_|_|_|_|_|_|_|_|_|_|_|_|_|_|_|k
  all_goals first
    | omega
    | kernel_rfl
/-- What lies in the variables that the road reads. -/
structure Env (w : World) : Prop where
  tab : Tab w
  maxl : ∃ m, w.cell? ⟨2, 0, none⟩ = some (.int .i64 m)
  forms : w.rangeAt 0 0 fcells
  pow : Lib.TabIs Tryd.prog w "internal/strconv.uint64pow10" .u64 Lib.pow10Tab
theorem Env.below {w w' : World} (h : Env w) (hb : Below w.heap.size w w') : Env w' := by
  refine ⟨h.tab.below hb, ?_, ?_, TabIs_below (g := 3) (by kernel_rfl) h.pow hb⟩
  · obtain ⟨m, hm⟩ := h.maxl
    exact ⟨m, by rw [hb.cell (World.block_lt_of_cell? w _ hm)]; exact hm⟩
  · intro j v hv
    have := h.forms j v hv
    rw [hb.cell (World.block_lt_of_cell? w _ this)]
    exact this
theorem Env.drewN {w : World} (h : Env w) (n : Nat) : Env (w.drewN n) := h.below ⟨rfl, rfl, rfl, Nat.le_refl _, fun _ _ => rfl⟩
theorem Env.alloc {w : World} (h : Env w) (o : Obj) : Env (w.alloc o) := h.below (below_one w o)
theorem Env.form {w : World} (h : Env w) (k : Nat) (hk : k < 21) : w.cell? ⟨0, k * 4, none⟩ = some (str (nmOf k)) ∧ w.cell? ⟨0, k * 4 + 1, none⟩ = some (i64 (rg k : Nat)) ∧ w.cell? ⟨0, k * 4 + 2, none⟩ = some (i64 (fNums k : Nat)) ∧ w.cell? ⟨0, k * 4 + 3, none⟩ = some (.bool (fLab k)) := by
  obtain ⟨h0, h1, h2, h3⟩ := fcells_at k hk
  have e0 := h.forms _ _ h0
  have e1 := h.forms _ _ h1
  have e2 := h.forms _ _ h2
  have e3 := h.forms _ _ h3
  rw [Nat.zero_add] at e0 e1 e2 e3
  exact ⟨e0, e1, e2, e3⟩

theorem opOf_some {x : Bs} {k : Nat} (hk : k < 21) (h : (nmOf k == x) = true) (hb : ∀ j, j < k → (nmOf j == x) = false) : opOf x = some k := by
  unfold opOf
  rw [List.find?_eq_some_iff_getElem]
  refine ⟨h, k, by simpa using hk, by simp, fun j hj => ?_⟩
  have := hb j hj
  simp [this]
theorem opOf_none {x : Bs} (h : ∀ j, j < 21 → (nmOf j == x) = false) : opOf x = none := by
  unfold opOf
  rw [List.find?_eq_none]
  intro j hj
  have := h j (by simpa using hj)
  simp [this]
set_option maxHeartbeats 1600000 in
theorem sizeOf_ok (w : World) (he : Env w) (x : Bs) : Calls Tryd.prog 43 #[str x] w fun e w' => e = .returned (i64 (szOf x : Nat)) ∧ Below w.heap.size w w' := by
  have HE : Hid (Env w) := he
  clear he
  go_enter Tryd.func43, Tryd.ntmps43
  go_wp2_with (refine wpList_load_mid rfl 59 (.global 0) rfl 0 0 rfl fcells _ HE.out.forms Tryd.underlying59 rfl (by kernel_rfl) ?_)
  go_loopw [6] (fun i wr => ∃ k : Nat, i = i64 k ∧ k ≤ 21 ∧ (∀ j, j < k → (nmOf j == x) = false) ∧ Below w.heap.size w wr) (fun i _ => 21 - (intOf i).toNat)
  case atStart => exact ⟨0, rfl, by omega, (fun j hj => by omega), Below.refl _ _⟩
  case round =>
    obtain ⟨k, rfl, hk, hno, hb⟩ := hrel
    have HB : Hid (Below w.heap.size w wr) := hb
    have hz := hb.size
    by_cases hk21 : k < 21
    · have hidx := fun W => fidx W k hk21
      have HT : Hid (Tab wr) := (HE.out.below hb).tab
      obtain ⟨T, hT⟩ : ∃ T, (nmOf k == x) = T := ⟨_, rfl⟩
      have HNO : Hid (∀ j, j < k → (nmOf j == x) = false) := hno
      have HTT : Hid ((nmOf k == x) = T) := hT
      clear hno hb
      cases T
      · have HN2 : Hid (∀ j, j < k + 1 → (nmOf j == x) = false) := fun j hj => by
          by_cases h : j < k
          · exact HNO.out j h
          · obtain rfl : j = k := by omega
            exact HTT.out
        go_wp2_with fail
        exact ⟨⟨k + 1, by go_num, by omega, HN2.out, HB.out.alloc hz _⟩, by simp [intOf]; omega⟩
      · have HZ : Hid (∀ w, Tab w → Calls Tryd.prog 40 #[i64 k] w fun e w' => e = .returned (i64 (sz k : Nat)) ∧ w' = w) := fun w ht => by
          have := size_ok w ht k
          unfold szI at this
          rw [if_pos (by omega), Int.toNat_natCast] at this
          exact this
        have HS : Hid (szOf x = sz k) := (by unfold szOf; rw [opOf_some hk21 HTT.out HNO.out] : szOf x = sz k)
        generalize sz k = Z at *
        go_wp2_with (go_at_call 40; refine (HZ.out _ (HT.out.alloc _)).mono ?_; rintro e w1 ⟨rfl, rfl⟩)
        go_ret
        exact ⟨by rw [HS.out]; rfl, HB.out.alloc hz _⟩
    · have HS : Hid (szOf x = 0) := (by unfold szOf; rw [opOf_none (fun j hj => hno j (by omega))] : szOf x = 0)
      clear hno hb
      go_wp2_with fail
      go_ret
      exact ⟨by rw [HS.out]; rfl, HB.out⟩

set_option maxHeartbeats 800000 in
theorem name_ok (w : World) (he : Env w) (op : Int) : Calls Tryd.prog 17 #[i64 op] w fun e w' => e = .returned (str (if 0 ≤ op ∧ op ≤ 20 then nmOf op.toNat else [])) ∧ w' = w := by
  by_cases h : 0 ≤ op ∧ op ≤ 20
  · obtain ⟨k, rfl⟩ := Int.eq_ofNat_of_zero_le h.1
    rw [if_pos h, Int.toNat_natCast]
    obtain ⟨c0, _⟩ := he.form k (by omega)
    have h0 : 0 < w.heap.size := World.block_lt_of_cell? w _ c0
    have hk : (k : Int) < 21 := by omega
    clear he h
    generalize nmOf k = x at *
    go_enter Tryd.func17, Tryd.ntmps17
    go_wp2_with fail
    go_ret
    exact ⟨rfl, rfl⟩
  · rw [if_neg h]
    rcases (show op < 0 ∨ (¬ op < 0 ∧ 21 ≤ op) by omega) with h | ⟨h, h2⟩
    all_goals
      go_enter Tryd.func17, Tryd.ntmps17
      go_wp2_with fail
      go_ret
      exact ⟨rfl, rfl⟩
end Go.Proofs.YtobkehlkopkaeaaDoor
