/- frames.New, and imagolaw02's own 'seven', as contracts; no statement is proved in this text. -/
import Derived.Test.YtjfgeledmlkppabMem
namespace Go.Proofs.Ytjfgeledmlkppab
open Go.ChangeShapes Go.WideShapes Go.ChangeAt Go.RowKit

theorem z16_get (i : Nat) : z16[i % 16]! = .int .u8 0 := by
  have h : i % 16 < 16 := Nat.mod_lt _ (by omega)
  generalize i % 16 = j at h
  rcases j with _|_|_|_|_|_|_|_|_|_|_|_|_|_|_|_|j
  all_goals first | rfl | omega

theorem made_get (k j : Nat) (h : j < k) : (madeCells z16 k)[j]? = some (.int .u8 0) := by
  unfold madeCells
  rw [Array.getElem?_map, Array.getElem?_range]
  simp only [h, if_true, Option.map_some]
  exact congrArg some (z16_get j)

/-- A memory that was made: its row, then its header. -/
theorem made_mem (w : World) (n : Nat) (h : 1 ≤ n) : Mem ((w.alloc (.cells (madeCells z16 (n * 16)) 61)).alloc (.cells #[.slice (some ⟨w.heap.size, 0, none⟩) n n] 53)) (w.heap.size + 1) w.heap.size n (List.replicate (16 * n) 0) := by
  have hs : (w.alloc (.cells (madeCells z16 (n * 16)) 61)).heap.size = w.heap.size + 1 := by simp
  have hcell : ∀ j, j < 16 * n → ((w.alloc (.cells (madeCells z16 (n * 16)) 61)).alloc (.cells #[.slice (some ⟨w.heap.size, 0, none⟩) n n] 53)).cell? ⟨w.heap.size, j, none⟩ = some (.int .u8 0) := fun j hj => by
    rw [World.cell?_alloc_lt _ _ _ (by rw [hs]; show w.heap.size < _; omega)]
    exact new_cell _ _ _ _ _ (made_get _ _ (by omega))
  refine ⟨?_, ?_, ?_, by simp, by omega, h⟩
  · have := new_cell (w.alloc (.cells (madeCells z16 (n * 16)) 61)) #[.slice (some ⟨w.heap.size, 0, none⟩) n n] 53 0 _ rfl
    rw [hs] at this; exact this
  · intro j v hv
    have hj : j < 16 * n := by have := (List.getElem?_eq_some_iff.1 hv).1; rw [cells_len] at this; simpa using this
    rw [Nat.zero_add, hcell j hj, ← hv]
    simp [cells, hj]
  · intro j hj
    rw [Nat.zero_add]
    refine ⟨by rw [hcell j hj]; rfl, ?_⟩
    rw [World.frozen?_alloc_past _ _ _ (by rw [hs]; omega)]
    exact new_frozen _ _ _ _

theorem info61x : (Try.prog.info? 61).map (fun i => (i.zero, i.size, i.bytes)) = some (some (.agg z16), 16, 16) := by kernel_rfl
theorem info61' : ∃ i, Try.prog.info? 61 = some i ∧ i.zero = some (.agg z16) ∧ i.size = 16 ∧ i.bytes = 16 := by
  have h := info61x
  cases hi : Try.prog.info? 61 with
  | none => rw [hi] at h; cases h
  | some i =>
    rw [hi] at h
    simp only [Option.map_some, Option.some.injEq, Prod.mk.injEq] at h
    exact ⟨i, rfl, h.1, h.2.1, h.2.2⟩

set_option maxHeartbeats 400000 in
theorem new_ok (w : World) (n : Nat) (h1 : 1 ≤ n) (h2 : n ≤ 64) :
    Calls Try.prog 7 #[.int .i64 n] w fun e w' => e = .returned (.tuple #[.pointer (some ⟨w.heap.size + 1, 0, none⟩), .int .i64 0]) ∧ Below w.heap.size w w' ∧ Mem w' (w.heap.size + 1) w.heap.size n (List.replicate (16 * n) 0) := by
  obtain ⟨i, hi, hz, hs, hb⟩ := info61'
  have hm := run_make (P := Try.prog) w 51 61 i (.agg z16) (by kernel_rfl) hi hz .i64 .i64 n n (by omega) (by omega) (by rw [hb]; omega) (by omega)
  rw [Int.toNat_natCast, hs] at hm
  have hmem := made_mem w n h1
  have hbelow : Below w.heap.size w ((w.alloc (.cells (madeCells z16 (n * 16)) 61)).alloc (.cells #[.slice (some ⟨w.heap.size, 0, none⟩) n n] 53)) := ((Below.refl _ _).alloc (Nat.le_refl _) _).alloc (by simp) _
  have HM : Hid _ := hmem
  have HB : Hid _ := hbelow
  have hm' : (Instr.makeSlice 51 (.int .i64 n) (.int .i64 n)).run Try.prog w = .ok (.slice (some ⟨w.heap.size, 0, none⟩) n n) (w.alloc (.cells (madeCells z16 (n * 16)) 61)) := hm
  clear hm hmem hbelow hi hz hs hb
  generalize madeCells z16 (n * 16) = C at *
  go_enter Try.func7, Try.ntmps7
  go_wp2
  go_ret2
  exact ⟨rfl, HB.out, HM.out⟩

set_option maxHeartbeats 400000 in
theorem new_no (w : World) (n : Int) (h : n < 1 ∨ 64 < n) :
    Calls Try.prog 7 #[.int .i64 n] w fun e w' => e = .returned (.tuple #[.pointer none, .int .i64 1]) ∧ w' = w := by
  rcases h with h | h
  · go_enter Try.func7, Try.ntmps7
    go_wp2
    go_ret2
    exact ⟨rfl, rfl⟩
  · have h' : ¬ n < 1 := by omega
    go_enter Try.func7, Try.ntmps7
    go_wp2
    go_ret2
    exact ⟨rfl, rfl⟩

theorem len_mem {w : World} {p q n : Nat} {l : List UInt8} (h : Mem w p q n l) :
    Calls Try.prog 16 #[.pointer (some ⟨p, 0, none⟩)] w fun e w' => e = .returned (.int .i64 n) ∧ w' = w := len_any w p q n h.ptr

theorem sv1 : plc 0 1 3 = 0 := by decide +kernel
theorem sv2 : cpE 0 2 3 = 0 := by decide +kernel
theorem sv3 : plc 2 1 3 = 0 := by decide +kernel
theorem sv4 : pgE 2 3 = 0 := by decide +kernel
theorem sv5 : gtV (cpL (stL (List.replicate (16 * 3) 0) 0 1 7 3) 0 2 3) 2 1 3 = 7 := by decide +kernel
theorem sv6 : (pgS (cpL (stL (List.replicate (16 * 3) 0) 0 1 7 3) 0 2 3) 2 3).length = 16 := by decide +kernel

set_option maxHeartbeats 800000 in
theorem seven_ok (w : World) : Calls Try.prog 8 #[] w fun e w' => e = .returned (.bool true) ∧ Below w.heap.size w w' := by
  go_enter Try.func8, Try.ntmps8
  go_wp2_with fail
  refine (new_ok w 3 (by omega) (by omega)).mono ?_
  rintro e w1 ⟨rfl, hb1, hm1⟩
  have HM1 : Hid _ := hm1
  have HB1 : Hid _ := hb1
  clear hm1 hb1
  go_wp2_with fail
  refine (set_mem HM1.out 0 1 7).mono ?_
  rintro e w2 ⟨he, ht2, hm2⟩
  rw [sv1] at he
  subst he
  have HM2 : Hid _ := hm2
  have HB2 : Hid _ := ht2
  clear hm2 ht2
  go_wp2_with fail
  refine (copy_mem HM2.out 0 2).mono ?_
  rintro e w3 ⟨he, ht3, hm3⟩
  rw [sv2] at he
  subst he
  have HM3 : Hid _ := hm3
  have HB3 : Hid _ := ht3
  clear hm3 ht3
  go_wp2_with fail
  refine (get_mem HM3.out 2 1).mono ?_
  rintro e w4 ⟨he, rfl⟩
  rw [sv3, sv5] at he
  subst he
  go_wp2_with fail
  refine (page_mem HM3.out 2).mono ?_
  rintro e w4 ⟨he, rfl⟩
  rw [sv4] at he
  have h6 := sv6
  generalize pgS (cpL (stL (List.replicate (16 * 3) 0) 0 1 7 3) 0 2 3) 2 3 = s at he h6
  subst he
  go_wp2_with (go_at_call 16; refine (len_mem HM3.out).mono ?_; rintro e w4 ⟨rfl, rfl⟩)
  go_ret
  exact ⟨rfl, (HB1.out.trans (HB2.out.below (Nat.le_refl _) HB1.out.size)).trans (HB3.out.below (Nat.le_refl _) (Nat.le_trans HB1.out.size HB2.out.size))⟩
end Go.Proofs.Ytjfgeledmlkppab
