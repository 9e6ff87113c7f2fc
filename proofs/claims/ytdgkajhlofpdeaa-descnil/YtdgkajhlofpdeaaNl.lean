/- A nil table; no statement is proved in this text. -/
import Derived.Test.YtdgkajhlofpdeaaArgs
namespace Go.Proofs.Ytdgkajhlofpdeaa
open Go.ChangeShapes Go.WideShapes Go.ChangeAt Go.RowKit Go.Deep
attribute [local go_sem ↓] Go.wp_at_zero Go.wp_at_succ


theorem of_no (p : Int) : ofL noSt p = [] := by simp [ofL, ofK, noSt, opt]
theorem lst_no : lst noSt = [] := by
  have : ∀ p, ofK noSt p 6 = [] := of_no
  simp [lst, allK, this]
set_option maxRecDepth 100000 in
set_option maxHeartbeats 1600000 in
theorem add_nil (w : World) (p a b : Int) : Calls Try.prog 24 #[.pointer none, i64 p, i64 a, i64 b] w fun e w' => e = .returned (.tuple #[i64 0, i64 (if rightF p 0 a b 0 then 7 else 1)]) ∧ Below w.heap.size w w' := by
  have HB0 := hid (below_one w (enO p 0 a b 0 38))
  have HR := hid (right_ok (w.alloc (enO p 0 a b 0 38)) p 0 a b 0)
  have hz := zero38
  cases hr : rightF p 0 a b 0
  all_goals (
    rw [hr] at HR
    clear hr
    go_enter Try.func24, Try.ntmps24
    go_wp2_with fail
    refine HR.out.mono ?_
    rintro e w1 ⟨rfl, hb1⟩
    have HB1 : Hid (Below w.heap.size w w1) := HB0.out.trans (hb1.mono HB0.out.size)
    clear hb1
    go_wp2_with fail
    go_ret2
    exact ⟨rfl, HB1.out⟩)
set_option maxRecDepth 100000 in
set_option maxHeartbeats 1600000 in
theorem dup_nil (w : World) (p s : Int) : Calls Try.prog 25 #[.pointer none, i64 p, i64 s] w fun e w' => e = .returned (.tuple #[i64 0, i64 6]) ∧ Below w.heap.size w w' := by
  have HC := hid (at_nil w p s)
  go_enter Try.func25, Try.ntmps25
  go_wp2_with fail
  refine HC.out.mono ?_
  rintro e w1 ⟨rfl, hb1⟩
  have HB1 : Hid (Below w.heap.size w (w1.alloc (enO 0 0 0 0 0 38))) := hb1.alloc hb1.size _
  clear hb1
  go_wp2_with fail
  go_ret2
  exact ⟨rfl, HB1.out⟩
set_option maxRecDepth 100000 in
set_option maxHeartbeats 1600000 in
theorem seek_nil (w : World) (p s o : Int) : Calls Try.prog 26 #[.pointer none, i64 p, i64 s, i64 o] w fun e w' => e = .returned (i64 6) ∧ Below w.heap.size w w' := by
  have HC := hid (at_nil w p s)
  go_enter Try.func26, Try.ntmps26
  go_wp2_with fail
  refine HC.out.mono ?_
  rintro e w1 ⟨rfl, hb1⟩
  have HB1 : Hid (Below w.heap.size w (w1.alloc (enO 0 0 0 0 0 38))) := hb1.alloc hb1.size _
  clear hb1
  go_wp2_with fail
  go_ret
  exact ⟨rfl, HB1.out⟩
set_option maxRecDepth 100000 in
set_option maxHeartbeats 1600000 in
theorem close_nil (w : World) (p s : Int) : Calls Try.prog 27 #[.pointer none, i64 p, i64 s] w fun e w' => e = .returned (i64 6) ∧ Below w.heap.size w w' := by
  have HC := hid (at_nil w p s)
  go_enter Try.func27, Try.ntmps27
  go_wp2_with fail
  refine HC.out.mono ?_
  rintro e w1 ⟨rfl, hb1⟩
  have HB1 : Hid (Below w.heap.size w (w1.alloc (enO 0 0 0 0 0 38))) := hb1.alloc hb1.size _
  clear hb1
  go_wp2_with fail
  go_ret
  exact ⟨rfl, HB1.out⟩
set_option maxRecDepth 100000 in
set_option maxHeartbeats 1600000 in
theorem fork_nil (w : World) (p c : Int) : Calls Try.prog 21 #[.pointer none, i64 p, i64 c] w fun e w' => ∃ x : Int, e = .returned (i64 x) ∧ (x = 7 ∨ x = 1) ∧ w' = w := by
  have HP := hid (isProc_ok w p)
  have HQ := hid (isProc_ok w c)
  cases hp : isP p
  · rw [hp] at HP
    clear hp
    go_enter Try.func21, Try.ntmps21
    go_wp2_with fail
    refine HP.out.mono ?_
    rintro e w1 ⟨rfl, hw⟩
    replace hw := hw.symm
    subst hw
    go_wp2_with fail
    go_ret
    exact ⟨_, rfl, by decide, rfl⟩
  cases hc : isP c
  · rw [hp] at HP
    rw [hc] at HQ
    clear hp hc
    go_enter Try.func21, Try.ntmps21
    go_wp2_with fail
    refine HP.out.mono ?_
    rintro e w1 ⟨rfl, hw⟩
    replace hw := hw.symm
    subst hw
    go_wp2_with fail
    refine HQ.out.mono ?_
    rintro e w1 ⟨rfl, hw⟩
    replace hw := hw.symm
    subst hw
    go_wp2_with fail
    go_ret
    exact ⟨_, rfl, by decide, rfl⟩
  rw [hp] at HP
  rw [hc] at HQ
  clear hp hc
  by_cases hpc : p = c
  · have q : (p == c) = true := beq_iff_eq.2 hpc
    clear hpc
    go_enter Try.func21, Try.ntmps21
    go_wp2_with fail
    refine HP.out.mono ?_
    rintro e w1 ⟨rfl, hw⟩
    replace hw := hw.symm
    subst hw
    go_wp2_with fail
    refine HQ.out.mono ?_
    rintro e w1 ⟨rfl, hw⟩
    replace hw := hw.symm
    subst hw
    go_wp2_with fail
    go_ret
    exact ⟨_, rfl, by decide, rfl⟩
  · have q : (p == c) = false := beq_false_of_ne hpc
    clear hpc
    go_enter Try.func21, Try.ntmps21
    go_wp2_with fail
    refine HP.out.mono ?_
    rintro e w1 ⟨rfl, hw⟩
    replace hw := hw.symm
    subst hw
    go_wp2_with fail
    refine HQ.out.mono ?_
    rintro e w1 ⟨rfl, hw⟩
    replace hw := hw.symm
    subst hw
    go_wp2_with fail
    go_ret
    exact ⟨_, rfl, by decide, rfl⟩
set_option maxRecDepth 100000 in
set_option maxHeartbeats 1600000 in
theorem drop_nil (w : World) (p : Int) : Calls Try.prog 28 #[.pointer none, i64 p] w fun e w' => e = .returned (i64 0) ∧ Below w.heap.size w w' := by
  have HO := hid (of_ok w 0 (.pointer none) noSt p (tv_nil w 0))
  rw [of_no] at HO
  go_enter Try.func28, Try.ntmps28
  go_wp2_with fail
  refine HO.out.mono ?_
  rintro e w1 ⟨ao, cap, rfl, _, hb1⟩
  have HB1 := hid hb1
  clear hb1
  go_wp2_with fail
  go_loopw [13] (fun i wr => i = i64 0 ∧ Hid (Below w.heap.size w wr)) (fun _ _ => 0)
  case atStart => exact ⟨rfl, HB1⟩
  case round =>
    obtain ⟨rfl, HB⟩ := hrel
    go_wp2_with fail
    go_ret
    exact ⟨rfl, HB.out⟩
set_option maxRecDepth 100000 in
set_option maxHeartbeats 1600000 in
theorem nil_walk (w : World) (x : Sp) : Calls Try.prog 8 #[x.v] w fun e w' => e = .returned (.bool true) ∧ Below w.heap.size w w' := by
  have HB0 := hid (below_one w (spO x))
  have HX0 := hid (heap_last w (spO x))
  have hz := zero38
  have A1 := hid fun W => add_nil W x.pid x.kind x.obj
  have A2 : Hid (∀ W, Calls Try.prog 16 #[.pointer none, i64 x.pid, i64 x.slot] W fun e w' => e = .returned (.tuple #[ev 0 0 0 0 0, i64 6]) ∧ Below W.heap.size W w') := fun W => get_ok W 0 (.pointer none) noSt x.pid x.slot (tv_nil W 0)
  have A3 := hid fun W => dup_nil W x.pid x.slot
  have A4 := hid fun W => fork_nil W x.pid x.n
  have A5 := hid fun W => rright_ok W x.pid 0 x.kind x.obj 0
  have A6 := hid fun W => seek_nil W x.pid x.slot x.n
  have A7 := hid fun W => close_nil W x.pid x.slot
  have A8 := hid fun W => drop_nil W x.pid
  have A9 : Hid (∀ W, Calls Try.prog 14 #[.pointer none, i64 x.kind, i64 x.obj] W fun e w' => e = .returned (i64 0) ∧ Below W.heap.size W w') := fun W => by
    have := refs_ok W 0 (.pointer none) noSt x.kind x.obj (tv_nil W 0)
    rw [lst_no] at this
    exact this
  have A10 : Hid (∀ W, Calls Try.prog 13 #[.pointer none] W fun e w' => ∃ ao cap, e = .returned (.slice ao 0 cap) ∧ Below W.heap.size W w') := fun W => by
    have := list_ok W 0 (.pointer none) noSt (tv_nil W 0)
    rw [lst_no] at this
    refine this.mono ?_
    rintro e w' ⟨ao, cap, he, _, hb⟩
    exact ⟨ao, cap, he, hb⟩
  cases hr : rightF x.pid 0 x.kind x.obj 0
  all_goals (
    rw [hr] at A1 A5
    clear hr
    go_enter Try.func8, Try.ntmps8
    go_wp2_with fail
    refine (A1.out _).mono ?_
    rintro e w1 ⟨rfl, hb1⟩
    have B1 : Hid (Below w.heap.size w w1) := HB0.out.trans (hb1.mono HB0.out.size)
    have X1 := hid (blk_below HX0.out hb1)
    have y1 := blk_cell X1.out 1
    have y2 := blk_cell X1.out 2
    clear hb1 A1
    go_wp2_with fail
    refine (A2.out _).mono ?_
    rintro e w2 ⟨rfl, hb2⟩
    have B2 : Hid (Below w.heap.size w (w2.alloc (enO 0 0 0 0 0 38))) := (B1.out.trans (hb2.mono B1.out.size)).alloc (Nat.le_trans B1.out.size hb2.size) _
    have X2 := hid (blk_alloc (blk_below X1.out hb2) (enO 0 0 0 0 0 38))
    have z1 := blk_cell X2.out 1
    have z2 := blk_cell X2.out 2
    clear hb2 A2 y1 y2
    go_wp2_with fail
    refine (A3.out _).mono ?_
    rintro e w3 ⟨rfl, hb3⟩
    have B3 : Hid (Below w.heap.size w w3) := B2.out.trans (hb3.mono B2.out.size)
    have X3 := hid (blk_below X2.out hb3)
    have y1 : w3.cell? ⟨w.heap.size, 1, none⟩ = some (i64 x.pid) := blk_cell X3.out 1
    have y2 : w3.cell? ⟨w.heap.size, 2, none⟩ = some (i64 x.slot) := blk_cell X3.out 2
    have y3 : w3.cell? ⟨w.heap.size, 3, none⟩ = some (i64 x.kind) := blk_cell X3.out 3
    have y4 : w3.cell? ⟨w.heap.size, 4, none⟩ = some (i64 x.obj) := blk_cell X3.out 4
    have y5 : w3.cell? ⟨w.heap.size, 5, none⟩ = some (i64 x.n) := blk_cell X3.out 5
    clear hb3 A3 z1 z2
    go_wp2_with fail
    refine (A4.out _).mono ?_
    rintro e w4 ⟨v, rfl, hv, hw⟩
    replace hw := hw.symm
    subst hw
    clear A4
    rcases hv with rfl | rfl
    all_goals (
      go_wp2_with fail
      refine (A5.out _).mono ?_
      rintro e w5 ⟨rfl, hb5⟩
      have B5 : Hid (Below w.heap.size w w5) := B3.out.trans (hb5.mono B3.out.size)
      have X5 := hid (blk_below X3.out hb5)
      have z1 : w5.cell? ⟨w.heap.size, 1, none⟩ = some (i64 x.pid) := blk_cell X5.out 1
      have z2 : w5.cell? ⟨w.heap.size, 2, none⟩ = some (i64 x.slot) := blk_cell X5.out 2
      have z3 : w5.cell? ⟨w.heap.size, 3, none⟩ = some (i64 x.kind) := blk_cell X5.out 3
      have z4 : w5.cell? ⟨w.heap.size, 4, none⟩ = some (i64 x.obj) := blk_cell X5.out 4
      have z5 : w5.cell? ⟨w.heap.size, 5, none⟩ = some (i64 x.n) := blk_cell X5.out 5
      clear hb5 A5 y1 y2 y3 y4 y5
      go_wp2_with fail
      refine (A6.out _).mono ?_
      rintro e w6 ⟨rfl, hb6⟩
      have B6 : Hid (Below w.heap.size w w6) := B5.out.trans (hb6.mono B5.out.size)
      have X6 := hid (blk_below X5.out hb6)
      have y1 : w6.cell? ⟨w.heap.size, 1, none⟩ = some (i64 x.pid) := blk_cell X6.out 1
      have y2 : w6.cell? ⟨w.heap.size, 2, none⟩ = some (i64 x.slot) := blk_cell X6.out 2
      have y3 : w6.cell? ⟨w.heap.size, 3, none⟩ = some (i64 x.kind) := blk_cell X6.out 3
      have y4 : w6.cell? ⟨w.heap.size, 4, none⟩ = some (i64 x.obj) := blk_cell X6.out 4
      have y5 : w6.cell? ⟨w.heap.size, 5, none⟩ = some (i64 x.n) := blk_cell X6.out 5
      clear hb6 A6 z1 z2 z3 z4 z5
      go_wp2_with fail
      refine (A7.out _).mono ?_
      rintro e w7 ⟨rfl, hb7⟩
      have B7 : Hid (Below w.heap.size w w7) := B6.out.trans (hb7.mono B6.out.size)
      have X7 := hid (blk_below X6.out hb7)
      have z1 : w7.cell? ⟨w.heap.size, 1, none⟩ = some (i64 x.pid) := blk_cell X7.out 1
      have z2 : w7.cell? ⟨w.heap.size, 2, none⟩ = some (i64 x.slot) := blk_cell X7.out 2
      have z3 : w7.cell? ⟨w.heap.size, 3, none⟩ = some (i64 x.kind) := blk_cell X7.out 3
      have z4 : w7.cell? ⟨w.heap.size, 4, none⟩ = some (i64 x.obj) := blk_cell X7.out 4
      have z5 : w7.cell? ⟨w.heap.size, 5, none⟩ = some (i64 x.n) := blk_cell X7.out 5
      clear hb7 A7 y1 y2 y3 y4 y5
      go_wp2_with fail
      refine (A8.out _).mono ?_
      rintro e w8 ⟨rfl, hb8⟩
      have B8 : Hid (Below w.heap.size w w8) := B7.out.trans (hb8.mono B7.out.size)
      have X8 := hid (blk_below X7.out hb8)
      have y1 : w8.cell? ⟨w.heap.size, 1, none⟩ = some (i64 x.pid) := blk_cell X8.out 1
      have y2 : w8.cell? ⟨w.heap.size, 2, none⟩ = some (i64 x.slot) := blk_cell X8.out 2
      have y3 : w8.cell? ⟨w.heap.size, 3, none⟩ = some (i64 x.kind) := blk_cell X8.out 3
      have y4 : w8.cell? ⟨w.heap.size, 4, none⟩ = some (i64 x.obj) := blk_cell X8.out 4
      have y5 : w8.cell? ⟨w.heap.size, 5, none⟩ = some (i64 x.n) := blk_cell X8.out 5
      clear hb8 A8 z1 z2 z3 z4 z5
      go_wp2_with fail
      refine (A9.out _).mono ?_
      rintro e w9 ⟨rfl, hb9⟩
      have B9 : Hid (Below w.heap.size w w9) := B8.out.trans (hb9.mono B8.out.size)
      have X9 := hid (blk_below X8.out hb9)
      have z1 : w9.cell? ⟨w.heap.size, 1, none⟩ = some (i64 x.pid) := blk_cell X9.out 1
      have z2 : w9.cell? ⟨w.heap.size, 2, none⟩ = some (i64 x.slot) := blk_cell X9.out 2
      have z3 : w9.cell? ⟨w.heap.size, 3, none⟩ = some (i64 x.kind) := blk_cell X9.out 3
      have z4 : w9.cell? ⟨w.heap.size, 4, none⟩ = some (i64 x.obj) := blk_cell X9.out 4
      have z5 : w9.cell? ⟨w.heap.size, 5, none⟩ = some (i64 x.n) := blk_cell X9.out 5
      clear hb9 A9 y1 y2 y3 y4 y5
      go_wp2_with fail
      refine (A10.out _).mono ?_
      rintro e w10 ⟨ao, cap, rfl, hb10⟩
      have B10 : Hid (Below w.heap.size w w10) := B9.out.trans (hb10.mono B9.out.size)
      have X10 := hid (blk_below X9.out hb10)
      have y1 : w10.cell? ⟨w.heap.size, 1, none⟩ = some (i64 x.pid) := blk_cell X10.out 1
      have y2 : w10.cell? ⟨w.heap.size, 2, none⟩ = some (i64 x.slot) := blk_cell X10.out 2
      have y3 : w10.cell? ⟨w.heap.size, 3, none⟩ = some (i64 x.kind) := blk_cell X10.out 3
      have y4 : w10.cell? ⟨w.heap.size, 4, none⟩ = some (i64 x.obj) := blk_cell X10.out 4
      have y5 : w10.cell? ⟨w.heap.size, 5, none⟩ = some (i64 x.n) := blk_cell X10.out 5
      clear hb10 A10 z1 z2 z3 z4 z5
      go_wp2_with fail
      refine (five_ok _).mono ?_
      rintro e w11 ⟨rfl, hb11⟩
      have B11 : Hid (Below w.heap.size w w11) := B10.out.trans (hb11.mono B10.out.size)
      clear hb11
      go_wp2_with fail
      go_ret
      exact ⟨rfl, B11.out⟩))
end Go.Proofs.Ytdgkajhlofpdeaa
