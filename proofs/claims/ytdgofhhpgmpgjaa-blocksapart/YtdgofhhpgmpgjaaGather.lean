/- blocks.Gather: its contract; no statement is proved in this text. -/
import Derived.Test.YtdgofhhpgmpgjaaDisk2
namespace Go.Proofs.Ytdgofhhpgmpgjaa
open Go.ChangeShapes Go.WideShapes Go.ChangeAt Go.RowKit Go.Deep

def allB (xs : List Int) (n : Nat) : Prop := ∀ x ∈ xs, inB x n = true
instance (xs : List Int) (n : Nat) : Decidable (allB xs n) := by unfold allB; infer_instance
def gaF (blk : Nat → List UInt8) (xs : List Int) : List UInt8 := xs.flatMap fun i => blk i.toNat
def gaE (xs : List Int) (size : Int) (n : Nat) : Int := if allB xs n then (if 0 ≤ size ∧ size ≤ 8 * xs.length then 0 else 1) else 6
def gaS (blk : Nat → List UInt8) (xs : List Int) (size : Int) (n : Nat) : List UInt8 := if allB xs n ∧ 0 ≤ size ∧ size ≤ 8 * xs.length then (gaF blk xs).take size.toNat else []

theorem gaF_len (blk : Nat → List UInt8) (n : Nat) (h : ∀ i, i < n → (blk i).length = 8) : ∀ xs : List Int, allB xs n → (gaF blk xs).length = 8 * xs.length
  | [], _ => rfl
  | x :: xs, hx => by
    obtain ⟨k, rfl, hk⟩ := inB_nat (hx x (by simp))
    have ih := gaF_len blk n h xs (fun y hy => hx y (by simp [hy]))
    have h8 := h k hk
    have e : gaF blk ((k : Int) :: xs) = blk k ++ gaF blk xs := by simp [gaF]
    rw [e, List.length_append, ih, h8, List.length_cons]
    omega
theorem gaF_drop (blk : Nat → List UInt8) (n : Nat) (h : ∀ i, i < n → (blk i).length = 8) : ∀ (xs : List Int) (j : Nat) (hj : j < xs.length), allB xs n → ∃ r, (gaF blk xs).drop (8 * j) = blk xs[j].toNat ++ r
  | x :: xs, 0, _, _ => ⟨gaF blk xs, by simp [gaF]⟩
  | x :: xs, j + 1, hj, hx => by
    obtain ⟨k, rfl, hk⟩ := inB_nat (hx x (by simp))
    have h8 := h k hk
    obtain ⟨r, hr⟩ := gaF_drop blk n h xs j (by simpa using hj) (fun y hy => hx y (by simp [hy]))
    have e : gaF blk ((k : Int) :: xs) = blk k ++ gaF blk xs := by simp [gaF]
    refine ⟨r, ?_⟩
    rw [e, show 8 * (j + 1) = (blk k).length + 8 * j by omega, ← List.drop_drop, List.drop_left, hr]
    rfl

/-- The bytes behind so many rounds. -/
def gaR (F : List UInt8) (size j : Nat) : List UInt8 := (F.take size).take (8 * j) ++ List.replicate (size - 8 * j) 0
theorem gaR_zero (F : List UInt8) (size : Nat) : gaR F size 0 = List.replicate size 0 := by simp [gaR]
theorem gaR_end (F : List UInt8) (size j : Nat) (h : size ≤ 8 * j) : gaR F size j = F.take size := by
  unfold gaR
  rw [show size - 8 * j = 0 by omega, List.replicate_zero, List.append_nil, List.take_of_length_le]
  rw [List.length_take]; omega
theorem gaR_len (F : List UInt8) (size j : Nat) (h : size ≤ F.length) : (gaR F size j).length = size := by
  unfold gaR
  rw [List.length_append, List.length_take, List.length_take, List.length_replicate]
  omega
theorem gaR_next (F b r : List UInt8) (size j : Nat) (hF : size ≤ F.length) (hb : b.length = 8) (hd : F.drop (8 * j) = b ++ r) (hj : 8 * j < size) :
    gaR F size (j + 1) = (gaR F size j).take (8 * j) ++ (b.take (min 8 (size - 8 * j)) ++ (gaR F size j).drop (8 * j + min 8 (size - 8 * j))) := by
  have hl : ((F.take size).take (8 * j)).length = 8 * j := by rw [List.length_take, List.length_take]; omega
  have e1 : (gaR F size j).take (8 * j) = (F.take size).take (8 * j) := by
    unfold gaR
    rw [List.take_append_of_le_length (by omega), List.take_of_length_le (by omega)]
  have e2 : (gaR F size j).drop (8 * j + min 8 (size - 8 * j)) = List.replicate (size - 8 * (j + 1)) 0 := by
    unfold gaR
    rw [← List.drop_drop, List.drop_left' hl, List.drop_replicate]
    congr 1
    omega
  have e3 : (F.take size).take (8 * (j + 1)) = (F.take size).take (8 * j) ++ b.take (min 8 (size - 8 * j)) := by
    rw [show 8 * (j + 1) = 8 * j + 8 by omega, List.take_add]
    congr 1
    rw [List.drop_take, hd, List.take_take]
    rw [List.take_append_of_le_length (by omega)]
  rw [e1, e2]
  conv => lhs; unfold gaR
  rw [e3, List.append_assoc]

theorem over_get (l : List UInt8) (o : Nat) (v : List UInt8) (h : o + v.length ≤ l.length) (j : Nat) :
    (l.take o ++ (v ++ l.drop (o + v.length)))[j]? = if j < o then l[j]? else if j < o + v.length then v[j - o]? else l[j]? := by
  have h1 : (l.take o).length = o := by simp; omega
  by_cases hj : j < o
  · rw [if_pos hj, List.getElem?_append_left (by omega), List.getElem?_take_of_lt hj]
  · rw [if_neg hj, List.getElem?_append_right (by omega), h1]
    by_cases hk : j < o + v.length
    · rw [if_pos hk, List.getElem?_append_left (by omega)]
    · rw [if_neg hk, List.getElem?_append_right (by omega), List.getElem?_drop]
      congr 1
      omega
/-- A row of bytes. -/
structure Byt (w : World) (G : Nat) (l : List UInt8) : Prop where
  row : w.rangeAt G 0 (cells l)
  thr : w.there G 0 l.length
theorem Byt.over {w : World} {G : Nat} {l : List UInt8} (h : Byt w G l) (o : Nat) (v : List UInt8) (hv : o + v.length ≤ l.length) : Byt (w.setCells G o (cells v)) G (l.take o ++ (v ++ l.drop (o + v.length))) := by
  have hlen : (l.take o ++ (v ++ l.drop (o + v.length))).length = l.length := by simp; omega
  refine ⟨?_, by rw [hlen]; exact World.there_setCells h.thr _ _ _⟩
  intro j x hx
  simp only [cells, List.getElem?_map, over_get l o v (by omega) j] at hx
  rw [Nat.zero_add]
  by_cases h1 : j < o
  · rw [if_pos h1] at hx
    rw [World.cell?_setCells_out _ _ _ _ _ (fun _ _ => Or.inl h1)]
    have := h.row j x (by simpa [cells] using hx)
    rw [Nat.zero_add] at this; exact this
  · rw [if_neg h1] at hx
    by_cases h2 : j < o + v.length
    · rw [if_pos h2] at hx
      have := World.cell?_setCells_in G (cells v) o w (fun i hi => by
        have := (h.thr (o + i) (by rw [cells_len] at hi; omega)).1
        rw [Nat.zero_add] at this; exact this) (j - o) (by rw [cells_len]; omega)
      rw [show o + (j - o) = j by omega] at this
      rw [this, ← hx]
      simp only [cells, List.getElem_map]
      rw [List.getElem?_eq_getElem (by omega)]
      rfl
    · rw [if_neg h2] at hx
      rw [World.cell?_setCells_out _ _ _ _ _ (fun _ _ => Or.inr (by rw [cells_len]; show o + v.length ≤ j; omega))]
      have := h.row j x (by simpa [cells] using hx)
      rw [Nat.zero_add] at this; exact this
theorem Byt.drewN {w : World} {G : Nat} {l : List UInt8} (h : Byt w G l) (n : Nat) : Byt (w.drewN n) G l := ⟨by simpa [World.rangeAt] using h.row, by simpa [World.there] using h.thr⟩
theorem Byt.drew {w : World} {G : Nat} {l : List UInt8} (h : Byt w G l) : Byt w.drew G l := ⟨by simpa using h.row, by simpa using h.thr⟩
theorem byt_made (w : World) (k : Nat) : Byt (w.alloc (.cells (madeCells #[.int .u8 0] k) 5)) w.heap.size (List.replicate k 0) := by
  have hget : ∀ j, j < k → (madeCells #[Value.int .u8 0] k)[j]? = some (.int .u8 0) := fun j hj => by
    unfold madeCells
    rw [Array.getElem?_map, Array.getElem?_range]
    simp only [hj, if_true, Option.map_some]
    simp [Nat.mod_one]
  refine ⟨fun j v hv => ?_, fun j hj => ?_⟩
  · have hj : j < k := by have := (List.getElem?_eq_some_iff.1 hv).1; rw [cells_len] at this; simpa using this
    have hv' : v = .int .u8 0 := by
      simp [cells, hj] at hv
      exact hv.symm
    rw [Nat.zero_add, hv']
    exact new_cell _ _ _ _ _ (hget j hj)
  · rw [Nat.zero_add]
    refine ⟨?_, new_frozen _ _ _ _⟩
    rw [new_cell _ _ _ _ _ (hget j (by simpa using hj))]
    rfl

theorem info5s : (Try.prog.info? 5).map (·.size) = some 1 := by kernel_rfl
theorem info5x : (Try.prog.info? 5).map (fun i => (i.zero, i.size, i.bytes)) = some (some (.int .u8 0), 1, 1) := by kernel_rfl

set_option maxRecDepth 100000 in
set_option maxHeartbeats 4000000 in
theorem gather_ok {w : World} {p q n m : Nat} {blk : Nat → List UInt8} (h : Dsk w p q n m blk) (ao : Option Addr) (cap : Nat) (xs : List Int) (hI : ISl w ao xs) (hlen : xs.length ≤ 100) (size : Int) (hsz : -1000 ≤ size ∧ size ≤ 1000) :
    Calls Try.prog 24 #[.pointer (some ⟨p, 0, none⟩), .slice ao xs.length cap, i64 size] w fun e w' => e = .returned (.tuple #[.string ⟨(gaS blk xs size n).toArray⟩, i64 (gaE xs size n)]) ∧ Below w.heap.size w w' := by
  obtain ⟨i5, hi, hz, hs, hby⟩ := info_parts info5x
  have HI5 : Hid (Try.prog.info? 5 = some i5) := hi
  have HI : Hid (ISl w ao xs) := hI
  have HD : Hid (Dsk w p q n m blk) := h
  have h1 := h.ptr
  have hplt := h.plt
  have hqlt := h.qlt
  clear hI h hi
  have hN : ∃ N, xs.length = N := ⟨_, rfl⟩
  obtain ⟨N, hN⟩ := hN
  rw [hN] at hlen ⊢
  have HN : Hid (xs.length = N) := hN
  clear hN
  go_enter Try.func24, Try.ntmps24
  go_wp2_with fail
  go_loopw [14] (fun i wr => ∃ (k : Nat), k ≤ N ∧ i = i64 k ∧ w = wr ∧ Hid (allB (xs.take k) n)) (fun i _ => N - (intOf i).toNat)
  case atStart => exact ⟨0, by omega, rfl, rfl, fun x hx => by simp at hx⟩
  case round =>
    obtain ⟨k, hk, rfl, hwr, HK⟩ := hrel
    subst hwr
    by_cases hlt : k < N
    · have hkl : k < xs.length := by rw [HN.out]; exact hlt
      obtain ⟨b, off, rfl, hbl, c0⟩ := HI.out.at hkl
      have hE : ∃ x, xs[k] = x := ⟨_, rfl⟩
      obtain ⟨x, hE⟩ := hE
      rw [hE] at c0
      have HE : Hid (xs[k] = x) := hE
      clear hE
      by_cases hx : inB x n = true
      · go_wp2_with (go_at_call 34; refine (has_any _ _ _ _ _ h1).mono ?_; rintro e w' ⟨rfl, rfl⟩)
        exact ⟨⟨k + 1, by omega, by go_num, by first | rfl | trivial, by
          intro y hy
          rw [← List.take_append_getElem hkl] at hy
          rcases List.mem_append.1 hy with hy | hy
          · exact HK.out y hy
          · simp at hy; subst hy; rw [HE.out]; exact hx⟩, by simp [intOf]; omega⟩
      · have hno : ¬ allB xs n := fun h => hx (by rw [← HE.out]; exact h _ (List.getElem_mem hkl))
        have hE1 : gaE xs size n = 6 := if_neg hno
        have hS1 : gaS blk xs size n = [] := if_neg (fun h => hno h.1)
        have hx' : inB x n = false := by simpa using hx
        go_wp2_with (go_at_call 34; refine (has_any _ _ _ _ _ h1).mono ?_; rintro e w' ⟨rfl, rfl⟩)
        go_ret2
        exact ⟨by first | rfl | (rw [hE1, hS1]; rfl), Below.refl _ _⟩
    · obtain rfl : k = N := by omega
      have hT : xs.take k = xs := by rw [← HN.out]; simp
      rw [hT] at HK
      by_cases hs0 : size < 0
      · have hE1 : gaE xs size n = 1 := by unfold gaE; rw [if_pos HK.out, if_neg (by omega)]
        have hS1 : gaS blk xs size n = [] := by unfold gaS; rw [if_neg (by omega)]
        go_wp2_with fail
        go_ret2
        exact ⟨by first | rfl | (rw [hE1, hS1]; rfl), Below.refl _ _⟩
      · by_cases hs1 : size ≤ 8 * (k : Int)
        · obtain ⟨S, rfl⟩ : ∃ S : Nat, size = S := ⟨size.toNat, by omega⟩
          have hE1 : gaE xs S n = 0 := by unfold gaE; rw [if_pos HK.out, if_pos (by rw [HN.out]; omega)]
          have hS1 : gaS blk xs S n = (gaF blk xs).take S := by
            unfold gaS; rw [if_pos ⟨HK.out, by rw [HN.out]; omega⟩]; rfl
          have hFl := gaF_len blk n HD.out.len xs HK.out
          rw [HN.out] at hFl
          have hmk := run_make (P := Try.prog) w 92 5 i5 (.int .u8 0) under92 HI5.out hz .i64 .i64 S S (by omega) (by omega) (by rw [hby]; omega) (by omega)
          rw [Int.toNat_natCast, hs, Nat.mul_one] at hmk
          have hmk' : (Instr.makeSlice 92 (.int .i64 S) (.int .i64 S)).run Try.prog w = .ok (.slice (some ⟨w.heap.size, 0, none⟩) S S) (w.alloc (.cells (madeCells #[.int .u8 0] S) 5)) := hmk
          have HB0 : Hid (Byt (w.alloc (.cells (madeCells #[.int .u8 0] S) 5)) w.heap.size (gaR (gaF blk xs) S 0)) := by rw [gaR_zero]; exact byt_made w S
          have HW0 : Hid (Below w.heap.size w (w.alloc (.cells (madeCells #[.int .u8 0] S) 5))) := (Below.refl _ _).alloc (Nat.le_refl _) _
          clear hmk
          generalize madeCells #[Value.int .u8 0] S = C at *
          have HF : Hid ((gaF blk xs).length = 8 * k) := hFl
          clear hFl
          generalize hFF : gaF blk xs = F at *
          have HFF : Hid (gaF blk xs = F) := hFF
          clear hFF
          go_wp2_with fail
          go_loopw [11] (fun u w3 => ∃ (j : Nat), u = .int .i64 (8 * (j : Int)) ∧ 8 * j ≤ S + 7 ∧ Byt w3 w.heap.size (gaR F S j) ∧ Below w.heap.size w w3) (fun u _ => S - (intOf u).toNat)
          case atStart => exact ⟨0, by rfl, by omega, HB0.out, HW0.out⟩
          case round =>
            obtain ⟨j, rfl, hj, hby3, hb3⟩ := hrel
            generalize wr = w3 at *
            by_cases hjS : 8 * j < S
            · have hjk : j < xs.length := by rw [HN.out]; omega
              obtain ⟨b, off, rfl, hbl, c0⟩ := (HI.out.below hb3).at hjk
              obtain ⟨kx, hkx, hkn⟩ := inB_nat (HK.out _ (List.getElem_mem hjk))
              obtain ⟨rr, hdrop⟩ := gaF_drop blk n HD.out.len xs j hjk HK.out
              rw [hkx] at c0 hdrop
              rw [HFF.out, Int.toNat_natCast] at hdrop
              have hD3 : Dsk w3 p q n m blk := HD.out.below hb3 hplt hqlt
              have hl8 := hD3.len kx hkn
              have hlR : (gaR F S j).length = S := gaR_len F S j (by rw [HF.out]; omega)
              have hcs : (cells ((blk kx).take (min 8 (S - 8 * j)))).length = min 8 (S - 8 * j) := by rw [cells_len, List.length_take]; omega
              have hcp := run_copy_cells (P := Try.prog) w3.drew 92 92 3 5 w.heap.size (8 * j) (S - 8 * j) (S - 8 * j) ⟨q, kx * 8, none⟩ 8 8 (cells ((blk kx).take (min 8 (S - 8 * j)))) under92 info5s (by rw [hcs])
                (fun i v hv => by
                  rw [Addr.add_mid, World.cell?_drew]
                  refine hD3.row kx hkn i v ?_
                  have hi : i < min 8 (S - 8 * j) := by have := (List.getElem?_eq_some_iff.1 hv).1; omega
                  rw [← hv]
                  simp only [cells, List.getElem?_map, List.getElem?_take_of_lt hi])
                (fun i hi => by
                  have := (hby3.drew.thr (8 * j + i) (by rw [hlR]; omega)).1
                  rw [Nat.zero_add] at this; exact this)
                (fun i hi => by
                  have := (hby3.drew.thr (8 * j + i) (by rw [hlR]; omega)).2
                  rw [Nat.zero_add] at this; exact this) (cells_one _)
              have hq3 : (8 * (j : Int)).tdiv 8 = j := Int.mul_tdiv_cancel_left _ (by omega)
              have hq4 : (8 * (j : Int)) / 8 = j := Int.mul_ediv_cancel_left _ (by omega)
              have hjI : (j : Int) < (k : Int) := by omega
              have hkI : (kx : Int) < (n : Int) := by omega
              have HN3 : Hid (Byt (w3.drew.setCells w.heap.size (8 * j) (cells ((blk kx).take (min 8 (S - 8 * j))))) w.heap.size (gaR F S (j + 1))) := by
                have := hby3.drew.over (8 * j) ((blk kx).take (min 8 (S - 8 * j))) (by rw [List.length_take]; omega)
                rw [List.length_take, show min (min 8 (S - 8 * j)) (blk kx).length = min 8 (S - 8 * j) by omega, ← gaR_next F (blk kx) rr S j (by rw [HF.out]; omega) hl8 hdrop hjS] at this
                exact this
              have HB3 : Hid (Below w.heap.size w (w3.drew.setCells w.heap.size (8 * j) (cells ((blk kx).take (min 8 (S - 8 * j)))))) := hb3.drew.trans ((Touch.setCells _ _ _ (Touch.refl w.heap.size w3.drew)).below (Nat.le_refl _) hb3.size)
              have hp3 : w3.cell? ⟨p, 0, none⟩ = some (.slice (some ⟨q, 0, none⟩) n n) := hD3.ptr
              clear hD3 hdrop hb3 hby3 hlR hcs hkx hl8
              generalize cells ((blk kx).take (min 8 (S - 8 * j))) = cs at *
              go_wp2_with fail
              go_region
              go_wp2_with fail
              exact ⟨⟨j + 1, by go_num, by omega, HN3.out, HB3.out⟩, by simp [intOf]; omega⟩
            · rw [gaR_end F S j (by omega)] at hby3
              have hlt : (F.take S).length = S := by rw [List.length_take, HF.out]; omega
              have hconv := run_convert_bytes_back (P := Try.prog) w3 92 9 5 ⟨w.heap.size, 0, none⟩ S (F.take S) (by kernel_rfl) (by kernel_rfl) (by kernel_rfl) (fun i hi => by
                rw [Addr.add_mid]; exact hby3.row i _ (by simp only [cells, List.getElem?_map, List.getElem?_eq_getElem hi, Option.map_some]))
              rw [hlt] at hconv
              have HB3 : Hid (Below w.heap.size w w3) := hb3
              clear hby3 hlt hb3
              generalize F.take S = FS at *
              go_wp2_with fail
              go_ret2
              exact ⟨by first | rfl | (rw [hE1, hS1]; rfl), HB3.out⟩
        · have hE1 : gaE xs size n = 1 := by unfold gaE; rw [if_pos HK.out, if_neg (by rw [HN.out]; omega)]
          have hS1 : gaS blk xs size n = [] := by unfold gaS; rw [if_neg (by rw [HN.out]; omega)]
          go_wp2_with fail
          go_ret2
          exact ⟨by first | rfl | (rw [hE1, hS1]; rfl), Below.refl _ _⟩
end Go.Proofs.Ytdgofhhpgmpgjaa
