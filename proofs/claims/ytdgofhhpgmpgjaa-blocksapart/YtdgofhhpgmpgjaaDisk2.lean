/- blocks.Disk: Write and New as functions of the blocks; no statement is proved in this text. -/
import Derived.Test.YtdgofhhpgmpgjaaDisk
namespace Go.Proofs.Ytdgofhhpgmpgjaa
open Go.ChangeShapes Go.WideShapes Go.ChangeAt Go.RowKit Go.Deep

def upd (blk : Nat → List UInt8) (k : Nat) (v : List UInt8) : Nat → List UInt8 := fun x => if x = k then v else blk x
def wrE (f : Int) (k n : Nat) : Int := if inB f n = true then (if k ≤ 8 then 0 else 2) else 6
def wrB (blk : Nat → List UInt8) (f : Int) (s : List UInt8) (n : Nat) : Nat → List UInt8 := if inB f n = true ∧ s.length ≤ 8 then upd blk f.toNat (s ++ (blk f.toNat).drop s.length) else blk
def wrM (m : Nat) (f : Int) (k n : Nat) : Nat := if inB f n = true ∧ k ≤ 8 then m + 1 else m
theorem wrM_le (m : Nat) (f : Int) (k n : Nat) : wrM m f k n ≤ m + 1 := by unfold wrM; split <;> omega

theorem Dsk.put {w : World} {p q n m : Nat} {blk : Nat → List UInt8} (h : Dsk w p q n m blk) (k : Nat) (s : List UInt8) (hk : k < n) (hs : s.length ≤ 8) :
    Dsk ((w.setCells q (k * 8) (cells s)).setCell ⟨p, 1, none⟩ (i64 (m + 1))) p q n (m + 1) (upd blk k (s ++ (blk k).drop s.length)) := by
  have hpq := h.ne
  have hc1 : (w.setCells q (k * 8) (cells s)).cell? ⟨p, 1, none⟩ = some (i64 m) := by rw [World.cell?_setCells_out _ _ _ _ _ (fun e => absurd e hpq)]; exact h.cnt
  have hfar : ∀ x : Addr, x.block = q → ((w.setCells q (k * 8) (cells s)).setCell ⟨p, 1, none⟩ (i64 (m + 1))).cell? x = (w.setCells q (k * 8) (cells s)).cell? x := fun x hx => World.cell?_setCell_far _ _ _ _ (by rw [hx]; exact hpq)
  have hlk := h.len k hk
  refine ⟨?_, World.cell?_setCell_same _ _ _ hc1, ?_, ?_, ?_, ?_, hpq, h.pos⟩
  · rw [World.cell?_setCell_other _ _ _ _ (by simp), World.cell?_setCells_out _ _ _ _ _ (fun e => absurd e hpq)]; exact h.ptr
  · rw [World.frozen?_setCell, World.frozen?_setCells]; exact h.fz
  · intro i hi j v hv
    rw [hfar _ rfl]
    unfold upd at hv
    by_cases hik : i = k
    · subst hik
      rw [if_pos rfl, cells_app] at hv
      by_cases hj : j < s.length
      · rw [List.getElem?_append_left (by rw [cells_len]; exact hj)] at hv
        have := World.cell?_setCells_in q (cells s) (i * 8) w (fun x hx => (h.thr i hi x (by rw [cells_len] at hx; omega)).1) j (by rw [cells_len]; exact hj)
        rw [this, ← hv, List.getElem?_eq_getElem]
      · rw [List.getElem?_append_right (by rw [cells_len]; omega), cells_len] at hv
        rw [World.cell?_setCells_out _ _ _ _ _ (fun _ _ => Or.inr (by rw [cells_len]; show i * 8 + s.length ≤ i * 8 + j; omega))]
        refine h.row i hi j v ?_
        rw [← hv]
        unfold cells
        rw [List.getElem?_map, List.getElem?_map, List.getElem?_drop]
        congr 2
        omega
    · rw [if_neg hik] at hv
      have hj : j < 8 := by have := (List.getElem?_eq_some_iff.1 hv).1; rw [cells_len, h.len i hi] at this; exact this
      rw [World.cell?_setCells_out _ _ _ _ _ (fun _ _ => by rw [cells_len]; show i * 8 + j < k * 8 ∨ k * 8 + s.length ≤ i * 8 + j; omega)]
      exact h.row i hi j v hv
  · intro i hi j hj
    rw [hfar _ rfl, World.frozen?_setCell]
    exact World.there_setCells (h.thr i hi) q (k * 8) (cells s) j hj
  · intro i hi
    unfold upd
    split
    · rw [List.length_append, List.length_drop]; omega
    · exact h.len i hi

theorem write_dsk {w : World} {p q n m : Nat} {blk : Nat → List UInt8} (h : Dsk w p q n m blk) (hm : m ≤ 1000) (f : Int) (s : ByteArray) :
    Calls Try.prog 19 #[.pointer (some ⟨p, 0, none⟩), i64 f, .string s] w fun e w' => e = .returned (i64 (wrE f s.size n)) ∧ Touch2 p q w w' ∧ Dsk w' p q n (wrM m f s.size n) (wrB blk f s.data.toList n) := by
  have hsz : s.data.toList.length = s.size := rfl
  unfold wrE wrM wrB
  rw [hsz]
  by_cases hz : inB f n = true
  · rw [if_pos hz]
    by_cases hs : s.size ≤ 8
    · rw [if_pos hs, if_pos ⟨hz, hs⟩, if_pos ⟨hz, hs⟩]
      obtain ⟨k, rfl, hk⟩ := inB_nat hz
      refine (write_ok w p q n m k s h.ne h.ptr h.cnt h.fz hm hk hs (h.thr k hk)).mono ?_
      rintro e w' ⟨rfl, rfl⟩
      refine ⟨rfl, ?_, h.put k _ hk hs⟩
      exact ((Touch.setCells _ _ _ (Touch.refl q w)).two' p).trans (((Touch.refl p _).setCell rfl _).two q)
    · rw [if_neg hs, if_neg (fun e => hs e.2), if_neg (fun e => hs e.2)]
      refine (write_long w p q n f s h.ptr hz (by omega)).mono ?_
      rintro e w' ⟨rfl, rfl⟩
      exact ⟨rfl, Touch2.refl _ _ _, h⟩
  · rw [if_neg hz, if_neg (fun e => hz e.1), if_neg (fun e => hz e.1)]
    refine (write_no w p q n f s h.ptr (by simpa using hz)).mono ?_
    rintro e w' ⟨rfl, rfl⟩
    exact ⟨rfl, Touch2.refl _ _ _, h⟩

abbrev z8 : Array Value := #[.int .u8 0, .int .u8 0, .int .u8 0, .int .u8 0, .int .u8 0, .int .u8 0, .int .u8 0, .int .u8 0]
def zer8 : List UInt8 := [0, 0, 0, 0, 0, 0, 0, 0]
theorem z8_get (i : Nat) : z8[i % 8]! = .int .u8 0 := by
  have h : i % 8 < 8 := Nat.mod_lt _ (by omega)
  generalize i % 8 = j at h
  rcases j with _|_|_|_|_|_|_|_|j
  all_goals first | rfl | omega
theorem made_get (k j : Nat) (h : j < k) : (madeCells z8 k)[j]? = some (.int .u8 0) := by
  unfold madeCells
  rw [Array.getElem?_map, Array.getElem?_range]
  simp only [h, if_true, Option.map_some]
  exact congrArg some (z8_get j)
theorem zer8_get (j : Nat) (v : Value) (h : (cells zer8)[j]? = some v) : v = .int .u8 0 ∧ j < 8 := by
  have hj : j < 8 := by have := (List.getElem?_eq_some_iff.1 h).1; simpa [cells, zer8] using this
  refine ⟨?_, hj⟩
  rcases j with _|_|_|_|_|_|_|_|j
  all_goals first | (simp [cells, zer8] at h; exact h.symm) | omega

theorem made_dsk (w : World) (n : Nat) (h : 1 ≤ n) : Dsk ((w.alloc (.cells (madeCells z8 (n * 8)) 94)).alloc (.cells #[.slice (some ⟨w.heap.size, 0, none⟩) n n, i64 0] 90)) (w.heap.size + 1) w.heap.size n 0 (fun _ => zer8) := by
  have hs : (w.alloc (.cells (madeCells z8 (n * 8)) 94)).heap.size = w.heap.size + 1 := by simp
  have hcell : ∀ j, j < n * 8 → ((w.alloc (.cells (madeCells z8 (n * 8)) 94)).alloc (.cells #[.slice (some ⟨w.heap.size, 0, none⟩) n n, i64 0] 90)).cell? ⟨w.heap.size, j, none⟩ = some (.int .u8 0) := fun j hj => by
    rw [World.cell?_alloc_lt _ _ _ (by rw [hs]; show w.heap.size < _; omega)]
    exact new_cell _ _ _ _ _ (made_get _ _ (by omega))
  have hhd := new_cell (w.alloc (.cells (madeCells z8 (n * 8)) 94)) #[.slice (some ⟨w.heap.size, 0, none⟩) n n, i64 0] 90
  have hff := new_frozen (w.alloc (.cells (madeCells z8 (n * 8)) 94)) #[.slice (some ⟨w.heap.size, 0, none⟩) n n, i64 0] 90 1
  rw [hs] at hhd hff
  refine ⟨hhd 0 _ rfl, hhd 1 _ rfl, hff, ?_, ?_, fun _ _ => rfl, by omega, h⟩
  · intro i hi j v hv
    obtain ⟨rfl, hj⟩ := zer8_get j v hv
    exact hcell _ (by omega)
  · intro i hi j hj
    refine ⟨by rw [hcell _ (by omega)]; rfl, ?_⟩
    rw [World.frozen?_alloc_past _ _ _ (by rw [hs]; omega)]
    exact new_frozen _ _ _ _

theorem info94x : (Try.prog.info? 94).map (fun i => (i.zero, i.size, i.bytes)) = some (some (.agg z8), 8, 8) := by kernel_rfl
set_option maxRecDepth 100000 in
set_option maxHeartbeats 400000 in
theorem new_ok (w : World) (n : Nat) (h1 : 1 ≤ n) (h2 : n ≤ 64) :
    Calls Try.prog 16 #[i64 n] w fun e w' => e = .returned (.tuple #[.pointer (some ⟨w.heap.size + 1, 0, none⟩), i64 0]) ∧ Below w.heap.size w w' ∧ Dsk w' (w.heap.size + 1) w.heap.size n 0 (fun _ => zer8) := by
  obtain ⟨i, hi, hz, hs, hb⟩ := info_parts info94x
  have hm := run_make (P := Try.prog) w 88 94 i (.agg z8) (by kernel_rfl) hi hz .i64 .i64 n n (by omega) (by omega) (by rw [hb]; omega) (by omega)
  rw [Int.toNat_natCast, hs] at hm
  have hmem := made_dsk w n h1
  have hbelow : Below w.heap.size w ((w.alloc (.cells (madeCells z8 (n * 8)) 94)).alloc (.cells #[.slice (some ⟨w.heap.size, 0, none⟩) n n, i64 0] 90)) := ((Below.refl _ _).alloc (Nat.le_refl _) _).alloc (by simp) _
  have HM : Hid (Dsk _ _ _ _ _ _) := hmem
  have HB : Hid (Below _ _ _) := hbelow
  have hm' : (Instr.makeSlice 88 (.int .i64 n) (.int .i64 n)).run Try.prog w = .ok (.slice (some ⟨w.heap.size, 0, none⟩) n n) (w.alloc (.cells (madeCells z8 (n * 8)) 94)) := hm
  clear hm hmem hbelow hi hz hs hb
  generalize madeCells z8 (n * 8) = C at *
  go_enter Try.func16, Try.ntmps16
  go_wp2
  go_ret2
  exact ⟨rfl, HB.out, HM.out⟩

theorem new_no (w : World) (n : Int) (h : n < 1 ∨ 64 < n) :
    Calls Try.prog 16 #[i64 n] w fun e w' => e = .returned (.tuple #[.pointer none, i64 1]) ∧ w' = w := by
  rcases h with h | h
  · go_enter Try.func16, Try.ntmps16
    go_wp2
    go_ret2
    exact ⟨rfl, rfl⟩
  · have h' : ¬ n < 1 := by omega
    go_enter Try.func16, Try.ntmps16
    go_wp2
    go_ret2
    exact ⟨rfl, rfl⟩
end Go.Proofs.Ytdgofhhpgmpgjaa
