/- Pipes in memory; New, at, Close, Write, Read, Waits, Open; no statement is proved in this text. -/
import Derived.Test.YtojhmiggocommaaTk
namespace Go.Proofs.Ytojhmiggocommaa
open Go.ChangeShapes Go.WideShapes Go.ChangeAt Go.RowKit Go.Deep
attribute [local go_sem ↓] Go.wp_at_zero Go.wp_at_succ

/-- The pipes that are there, by number. -/
abbrev St : Type := Nat → Option (List UInt8)
def upd (S : St) (i : Nat) (x : Option (List UInt8)) : St := fun j => if j = i then x else S j
theorem upd_same (S : St) (i : Nat) (x : Option (List UInt8)) : upd S i x i = x := if_pos rfl
theorem upd_other (S : St) (i j : Nat) (x : Option (List UInt8)) (h : j ≠ i) : upd S i x j = S j := if_neg h
def pv : Option Nat → Value
  | none => .pointer none
  | some b => pq b
def pvs (A : Nat → Option Nat) : Array Value := #[pv (A 0), pv (A 1), pv (A 2)]
structure Ps (w : World) (base P : Nat) (A : Nat → Option Nat) (S : St) : Prop where
  lo : base ≤ P
  blk : w.heap[P]? = some (.cells (pvs A) 57)
  non : ∀ i, i < 3 → A i = none → S i = none
  pip : ∀ i b, i < 3 → A i = some b → base ≤ b ∧ ∃ D, S i = some D ∧ Pip w b D
  inj : ∀ i j b, i < 3 → j < 3 → A i = some b → A j = some b → i = j
def PS (w : World) (base P : Nat) (S : St) : Prop := ∃ A, Ps w base P A S
theorem pvs_at (A : Nat → Option Nat) (i : Nat) (h : i < 3) : (pvs A)[i]? = some (pv (A i)) := by
  obtain rfl | rfl | rfl : i = 0 ∨ i = 1 ∨ i = 2 := by omega
  all_goals rfl
theorem pvs_set (A : Nat → Option Nat) (i : Nat) (x : Option Nat) (h : i < 3) : (pvs A).setIfInBounds i (pv x) = pvs (fun j => if j = i then x else A j) := by
  obtain rfl | rfl | rfl : i = 0 ∨ i = 1 ∨ i = 2 := by omega
  all_goals rfl
theorem Ps.cell {w : World} {base P : Nat} {A : Nat → Option Nat} {S : St} (h : Ps w base P A S) (i : Nat) (hi : i < 3) : w.cell? ⟨P, i, none⟩ = some (pv (A i)) := by rw [blk_cell h.blk, pvs_at A i hi]
theorem Ps.lt {w : World} {base P : Nat} {A : Nat → Option Nat} {S : St} (h : Ps w base P A S) : P < w.heap.size := blk_lt h.blk
theorem PS.lt {w : World} {base P : Nat} {S : St} (h : PS w base P S) : P < w.heap.size := h.choose_spec.lt
theorem PS.lo {w : World} {base P : Nat} {S : St} (h : PS w base P S) : base ≤ P := h.choose_spec.lo
theorem Ps.ne {w : World} {base P : Nat} {A : Nat → Option Nat} {S : St} (h : Ps w base P A S) {i b : Nat} (hi : i < 3) (hb : A i = some b) : b ≠ P := by
  rintro rfl
  obtain ⟨_, D, _, hp⟩ := h.pip i b hi hb
  have h1 := hp.blk
  rw [h.blk] at h1
  simp only [Option.some.injEq, Obj.cells.injEq] at h1
  exact absurd h1.2.1 (by decide)
theorem Ps.keep {w w' : World} {base P : Nat} {A : Nat → Option Nat} {S : St} (h : Ps w base P A S) (hP : w'.heap[P]? = w.heap[P]?) (hb : ∀ i b, i < 3 → A i = some b → w'.heap[b]? = w.heap[b]?) : Ps w' base P A S :=
  ⟨h.lo, hP.trans h.blk, h.non, fun i b hi hA => by
    obtain ⟨h1, D, h2, h3⟩ := h.pip i b hi hA
    exact ⟨h1, D, h2, h3.of_block (hb i b hi hA)⟩, h.inj⟩
theorem Ps.below {w w' : World} {base P : Nat} {A : Nat → Option Nat} {S : St} (h : Ps w base P A S) (hb : Below w.heap.size w w') : Ps w' base P A S :=
  h.keep (hb.block _ h.lt) fun i b hi hA => by
    obtain ⟨_, D, _, hp⟩ := h.pip i b hi hA
    exact hb.block _ hp.lt
theorem PS.below {w w' : World} {base P : Nat} {S : St} (h : PS w base P S) (hb : Below w.heap.size w w') : PS w' base P S := by
  obtain ⟨A, h⟩ := h
  exact ⟨A, h.below hb⟩
/-- Kept where blocks of other types alone have turned. -/
theorem PS.fr {w w' : World} {base base' P : Nat} {S : St} {ts : List TypeId} (h : PS w base P S) (hf : Fr base' ts w w') (h57 : ts.contains 57 = false) (h68 : ts.contains 68 = false) : PS w' base P S := by
  obtain ⟨A, h⟩ := h
  refine ⟨A, h.keep ?_ fun i b hi hA => ?_⟩
  · rw [h.blk]
    exact hf.kept _ _ h.blk (by simp only [keeps, h57]; rfl)
  · obtain ⟨_, D, _, hp⟩ := h.pip i b hi hA
    rw [hp.blk]
    exact hf.kept _ _ hp.blk (by simp only [keeps, h68]; rfl)
/-- A pipe's bytes have turned. -/
theorem Ps.put {w w' : World} {base P : Nat} {A : Nat → Option Nat} {S : St} (h : Ps w base P A S) {i b : Nat} (hi : i < 3) (hA : A i = some b) {D : List UInt8} (hp : Pip w' b D) (ht : Touch b w w') : PS w' base P (upd S i (some D)) ∧ Fr base [57, 68] w w' := by
  obtain ⟨hbb, D0, hS, hp0⟩ := h.pip i b hi hA
  refine ⟨⟨A, h.lo, ?_, fun j hj hn => ?_, fun j c hj hc => ?_, h.inj⟩, Fr.of_touch ht hp0.blk rfl hbb⟩
  · rw [ht.block _ h.lt (Ne.symm (h.ne hi hA))]
    exact h.blk
  · rw [upd_other _ _ _ _ (fun e => by subst e; rw [hA] at hn; cases hn)]
    exact h.non j hj hn
  · by_cases hij : j = i
    · subst hij
      rw [hA] at hc
      cases hc
      exact ⟨hbb, D, upd_same _ _ _, hp⟩
    · obtain ⟨h1, E, h2, h3⟩ := h.pip j c hj hc
      refine ⟨h1, E, by rw [upd_other _ _ _ _ hij]; exact h2, h3.of_block (ht.block _ h3.lt (fun e => hij ?_))⟩
      subst e
      exact h.inj _ _ _ hj hi hc hA
/-- A number of the table has turned. -/
theorem Ps.set {w : World} {base P : Nat} {A : Nat → Option Nat} {S : St} (h : Ps w base P A S) {i : Nat} (hi : i < 3) : PS (w.setCell ⟨P, i, none⟩ (.pointer none)) base P (upd S i none) ∧ Fr base [57, 68] w (w.setCell ⟨P, i, none⟩ (.pointer none)) := by
  have ht : Touch P w (w.setCell ⟨P, i, none⟩ (.pointer none)) := (Touch.refl P w).setCell rfl _
  refine ⟨⟨fun j => if j = i then none else A j, h.lo, ?_, fun j hj hn => ?_, fun j c hj hc => ?_, fun j k c hj hk hc hd => ?_⟩, Fr.of_touch ht h.blk rfl h.lo⟩
  · have := heap_setCell_same w P i (pvs A) 57 (.pointer none) h.blk
    rw [this, show (Value.pointer none) = pv none from rfl, pvs_set A i none hi]
  · by_cases hij : j = i
    · subst hij; exact upd_same _ _ _
    · rw [upd_other _ _ _ _ hij]
      simp only [if_neg hij] at hn
      exact h.non j hj hn
  · by_cases hij : j = i
    · simp only [if_pos hij] at hc; cases hc
    · simp only [if_neg hij] at hc
      obtain ⟨h1, E, h2, h3⟩ := h.pip j c hj hc
      exact ⟨h1, E, by rw [upd_other _ _ _ _ hij]; exact h2, h3.of_block (ht.block _ h3.lt (h.ne hj hc))⟩
  · by_cases hji : j = i
    · simp only [if_pos hji] at hc; cases hc
    · by_cases hki : k = i
      · simp only [if_pos hki] at hd; cases hd
      · simp only [if_neg hji] at hc
        simp only [if_neg hki] at hd
        exact h.inj j k c hj hk hc hd
theorem Ps.add {w : World} {base P : Nat} {A : Nat → Option Nat} {S : St} (h : Ps w base P A S) {i : Nat} (hi : i < 3) : PS ((w.alloc (.cells (pc []) 68)).setCell ⟨P, i, none⟩ (pq w.heap.size)) base P (upd S i (some [])) ∧ Fr base [57, 68] w ((w.alloc (.cells (pc []) 68)).setCell ⟨P, i, none⟩ (pq w.heap.size)) := by
  have hl := h.lt
  have hlo := h.lo
  have h2 := h.below (below_one w (.cells (pc []) 68))
  have ht : Touch P (w.alloc (.cells (pc []) 68)) ((w.alloc (.cells (pc []) 68)).setCell ⟨P, i, none⟩ (pq w.heap.size)) := (Touch.refl P _).setCell rfl _
  have hnew : Pip ((w.alloc (.cells (pc []) 68)).setCell ⟨P, i, none⟩ (pq w.heap.size)) w.heap.size [] := ⟨(ht.block _ (by simp) (by omega)).trans (heap_last w _), by simp⟩
  refine ⟨⟨fun j => if j = i then some w.heap.size else A j, h.lo, ?_, fun j hj hn => ?_, fun j c hj hc => ?_, fun j k c hj hk hc hd => ?_⟩, (Fr.of_below _ (below_one w _) (by omega)).trans (Fr.of_touch ht h2.blk rfl h.lo)⟩
  · have := heap_setCell_same (w.alloc (.cells (pc []) 68)) P i (pvs A) 57 (pq w.heap.size) h2.blk
    rw [this, show pq w.heap.size = pv (some w.heap.size) from rfl, pvs_set A i _ hi]
  · by_cases hij : j = i
    · simp only [if_pos hij] at hn; cases hn
    · rw [upd_other _ _ _ _ hij]
      simp only [if_neg hij] at hn
      exact h.non j hj hn
  · by_cases hij : j = i
    · simp only [if_pos hij] at hc
      cases hc
      subst hij
      exact ⟨by omega, [], upd_same _ _ _, hnew⟩
    · simp only [if_neg hij] at hc
      obtain ⟨h1, E, h2', h3⟩ := h2.pip j c hj hc
      exact ⟨h1, E, by rw [upd_other _ _ _ _ hij]; exact h2', h3.of_block (ht.block _ h3.lt (h2.ne hj hc))⟩
  · have old : ∀ m d, m < 3 → A m = some d → d < w.heap.size := fun m d hm hA => by
      obtain ⟨_, E, _, h3⟩ := h.pip m d hm hA
      exact h3.lt
    by_cases hji : j = i
    · by_cases hki : k = i
      · omega
      · simp only [if_pos hji] at hc
        simp only [if_neg hki] at hd
        cases hc
        have := old k _ hk hd
        omega
    · by_cases hki : k = i
      · simp only [if_neg hji] at hc
        simp only [if_pos hki] at hd
        cases hd
        have := old j _ hj hc
        omega
      · simp only [if_neg hji] at hc
        simp only [if_neg hki] at hd
        exact h.inj j k c hj hk hc hd
/-- What is wrong with a number. -/
def errA (S : St) (id : Int) : Int := if 0 ≤ id ∧ id < 3 then (match S id.toNat with | none => 6 | some _ => 0) else 1
theorem zero57 (w : World) : (zeroValue 57).run Try.prog w = .ok (.agg #[.pointer none, .pointer none, .pointer none]) w := by kernel_rfl
def noSt : St := fun _ => none
set_option maxRecDepth 100000 in
set_option maxHeartbeats 3200000 in
theorem new_ok (w : World) : Calls Try.prog 8 #[] w fun e w' => e = .returned (pq w.heap.size) ∧ PS w' w.heap.size w.heap.size noSt ∧ Below w.heap.size w w' := by
  have HP : Hid (PS (w.alloc (.cells #[.pointer none, .pointer none, .pointer none] 57)) w.heap.size w.heap.size noSt) :=
    ⟨fun _ => none, Nat.le_refl _, heap_last w _, fun _ _ _ => rfl, fun i b _ h => (by cases h), fun i j b _ _ h => (by cases h)⟩
  have hz := zero57 w
  go_enter Try.func8, Try.ntmps8
  go_wp2_with fail
  go_ret
  exact ⟨rfl, HP.out, below_one w _⟩
theorem isPipe_in (w : World) (i : Nat) (h : i < 3) : Calls Try.prog 30 #[i64 i] w fun e w' => e = .returned (.bool true) ∧ w' = w := by
  have h1 : (0 : Int) ≤ i := by omega
  have h2 : (i : Int) < 3 := by omega
  go_enter Try.func30, Try.ntmps30
  go_wp2_with fail
  go_ret
  exact ⟨rfl, rfl⟩
theorem isPipe_out (w : World) (n : Int) (h : ¬ (0 ≤ n ∧ n < 3)) : Calls Try.prog 30 #[i64 n] w fun e w' => e = .returned (.bool false) ∧ w' = w := by
  by_cases h1 : 0 ≤ n
  · have h2 : ¬ n < 3 := fun h2 => h ⟨h1, h2⟩
    clear h
    go_enter Try.func30, Try.ntmps30
    go_wp2_with fail
    go_ret
    exact ⟨rfl, rfl⟩
  · clear h
    go_enter Try.func30, Try.ntmps30
    go_wp2_with fail
    go_ret
    exact ⟨rfl, rfl⟩
theorem at_arg (w : World) (p : Value) (n : Int) (h : ¬ (0 ≤ n ∧ n < 3)) : Calls Try.prog 27 #[p, i64 n] w fun e w' => e = .returned (.tuple #[.pointer none, i64 1]) ∧ w' = w := by
  have H := hid (isPipe_out w n h)
  clear h
  go_enter Try.func27, Try.ntmps27
  go_wp2_with fail
  refine H.out.mono ?_
  rintro e w1 ⟨rfl, hw⟩
  replace hw := hw.symm
  subst hw
  go_wp2_with fail
  go_ret2
  exact ⟨rfl, rfl⟩
theorem at_nil (w : World) (i : Nat) (h : i < 3) : Calls Try.prog 27 #[.pointer none, i64 i] w fun e w' => e = .returned (.tuple #[.pointer none, i64 6]) ∧ w' = w := by
  have H := hid (isPipe_in w i h)
  go_enter Try.func27, Try.ntmps27
  go_wp2_with fail
  refine H.out.mono ?_
  rintro e w1 ⟨rfl, hw⟩
  replace hw := hw.symm
  subst hw
  go_wp2_with fail
  go_ret2
  exact ⟨rfl, rfl⟩
theorem at_none (w : World) (P i : Nat) (h : i < 3) (hc : w.cell? ⟨P, i, none⟩ = some (.pointer none)) : Calls Try.prog 27 #[pq P, i64 i] w fun e w' => e = .returned (.tuple #[.pointer none, i64 6]) ∧ w' = w := by
  have H := hid (isPipe_in w i h)
  have h2 : (i : Int) < 3 := by omega
  go_enter Try.func27, Try.ntmps27
  go_wp2_with fail
  refine H.out.mono ?_
  rintro e w1 ⟨rfl, hw⟩
  replace hw := hw.symm
  subst hw
  go_wp2_with fail
  go_ret2
  exact ⟨rfl, rfl⟩
theorem at_got (w : World) (P i b : Nat) (h : i < 3) (hc : w.cell? ⟨P, i, none⟩ = some (pq b)) : Calls Try.prog 27 #[pq P, i64 i] w fun e w' => e = .returned (.tuple #[pq b, i64 0]) ∧ w' = w := by
  have H := hid (isPipe_in w i h)
  have h2 : (i : Int) < 3 := by omega
  go_enter Try.func27, Try.ntmps27
  go_wp2_with fail
  refine H.out.mono ?_
  rintro e w1 ⟨rfl, hw⟩
  replace hw := hw.symm
  subst hw
  go_wp2_with fail
  go_ret2
  exact ⟨rfl, rfl⟩
end Go.Proofs.Ytojhmiggocommaa
