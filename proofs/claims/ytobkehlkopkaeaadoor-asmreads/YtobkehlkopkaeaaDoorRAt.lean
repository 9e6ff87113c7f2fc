/- The document's At: its contract; no statement is proved in this text. -/
import Derived.Test.YtobkehlkopkaeaaDoorAll
import Derived.RegionTactic
namespace Go.Proofs.YtobkehlkopkaeaaDoor
open Go.ChangeShapes Go.WideShapes Go.ChangeAt Go.RowKit
set_option maxRecDepth 100000

abbrev gotV (i : In) (n e : Int) : Value := .agg #[i64 i.op, i64 i.a, i64 i.b, i64 i.n, i64 n, i64 e]
set_option maxHeartbeats 800000 in
theorem rat_arg (w : World) (s : ByteArray) (p : Int) (h : p < 0 ∨ s.size ≤ p) : Calls Tryd.prog 59 #[.string s, i64 p] w fun e w' => e = .returned (gotV zI 0 1) ∧ Below w.heap.size w w' := by
  rcases (show p < 0 ∨ (¬ p < 0 ∧ (s.size : Int) ≤ p) by omega) with h | ⟨h, h2⟩
  · go_enter Tryd.func59, Tryd.ntmps59
    go_wp2_with fail
    exact bodyPost_ret (v := gotV zI 0 1) (by simp [results, Tryd.results59, go_sem, zI]) rfl ⟨rfl, below_one w _⟩
  · go_enter Tryd.func59, Tryd.ntmps59
    go_wp2_with fail
    exact bodyPost_ret (v := gotV zI 0 1) (by simp [results, Tryd.results59, go_sem, zI]) rfl ⟨rfl, below_one w _⟩
set_option maxHeartbeats 800000 in
theorem rat_size (w : World) (s : ByteArray) (j k : Nat) (hj : j < s.size) (h0 : ∀ h, (s[j]'h).toNat = k) (hk : k < 256) (h : szI k = 0 ∨ (s.size : Int) - j < szI k) : Calls Tryd.prog 59 #[.string s, i64 j] w fun e w' => e = .returned (gotV zI 0 4) ∧ Below w.heap.size w w' := by
  have HZ : Hid (∀ w, Calls Tryd.prog 56 #[i64 k] w fun e w' => e = .returned (i64 (szI k)) ∧ w' = w) := fun w => rsize_ok w k
  have hjI : (j : Int) < s.size := by omega
  have hb : 0 ≤ szI k ∧ szI k ≤ 4 := by unfold szI; have := sz_le (k : Int).toNat; split <;> omega
  generalize szI k = S at *
  rcases (show S = 0 ∨ (¬ S = 0 ∧ (s.size : Int) - j < S) by omega) with h | ⟨h, h2⟩
  · have hS : (S == 0) = true := by simpa using h
    clear h
    go_enter Tryd.func59, Tryd.ntmps59
    go_wp2_with (go_at_call 56; refine (HZ.out _).mono ?_; rintro e w1 ⟨rfl, rfl⟩)
    exact bodyPost_ret (v := gotV zI 0 4) (by simp [results, Tryd.results59, go_sem, zI]) rfl ⟨rfl, below_one w _⟩
  · have hS : (S == 0) = false := by simpa using h
    clear h
    go_enter Tryd.func59, Tryd.ntmps59
    go_wp2_with (go_at_call 56; refine (HZ.out _).mono ?_; rintro e w1 ⟨rfl, rfl⟩)
    exact bodyPost_ret (v := gotV zI 0 4) (by simp [results, Tryd.results59, go_sem, zI]) rfl ⟨rfl, below_one w _⟩

/-- What stands between two rounds. -/
structure Mid (w wr : World) (op a b N : Int) : Prop where
  got : wr.heap[w.heap.size]? = some (.cells #[i64 0, i64 0, i64 0, i64 0, i64 0, i64 0] 96 (0, 0))
  ins : wr.heap[w.heap.size + 1]? = some (.cells #[i64 op, i64 a, i64 b, i64 N] 37 (0, 0))
  bel : Below w.heap.size w wr
theorem Mid.cells {w wr : World} {op a b N : Int} (h : Mid w wr op a b N) : wr.cell? ⟨w.heap.size + 1, 0, none⟩ = some (i64 op) ∧ wr.cell? ⟨w.heap.size + 1, 1, none⟩ = some (i64 a) ∧ wr.cell? ⟨w.heap.size + 1, 2, none⟩ = some (i64 b) ∧ wr.cell? ⟨w.heap.size + 1, 3, none⟩ = some (i64 N) ∧ wr.frozen? ⟨w.heap.size + 1, 3, none⟩ = false := by
  rw [cell_of_row _ _ _ _ 37 (0, 0) h.ins, cell_of_row _ _ _ _ 37 (0, 0) h.ins, cell_of_row _ _ _ _ 37 (0, 0) h.ins, cell_of_row _ _ _ _ 37 (0, 0) h.ins]
  refine ⟨rfl, rfl, rfl, rfl, ?_⟩
  unfold World.frozen?
  rw [show wr.heap[(⟨w.heap.size + 1, 3, none⟩ : Addr).block]? = _ from h.ins]
  simp
theorem Mid.set {w wr : World} {op a b N : Int} (h : Mid w wr op a b N) (M : Int) : Mid w (wr.setCell ⟨w.heap.size + 1, 3, none⟩ (i64 M)) op a b M := by
  refine ⟨?_, ?_, h.bel.setCell (by simp) _⟩
  · rw [Below.heap_setCell _ _ _ _ (by simp)]; exact h.got
  · simp [World.setCell, Array.getElem?_modify, h.ins]
theorem Mid.drew {w wr : World} {op a b N : Int} (h : Mid w wr op a b N) : Mid w wr.drew op a b N := ⟨h.got, h.ins, ⟨h.bel.os, h.bel.tape, h.bel.output, h.bel.size, h.bel.block⟩⟩
theorem six_at {w : World} {H : Nat} (x0 x1 x2 x3 x4 x5 : Value) (t : TypeId) (hh : w.heap[H]? = some (.cells #[x0, x1, x2, x3, x4, x5] t (0, 0))) :
    (w.cell? ⟨H, 0, none⟩ = some x0 ∧ w.cell? ⟨H, 1, none⟩ = some x1 ∧ w.cell? ⟨H, 2, none⟩ = some x2 ∧ w.cell? ⟨H, 3, none⟩ = some x3 ∧ w.cell? ⟨H, 4, none⟩ = some x4 ∧ w.cell? ⟨H, 5, none⟩ = some x5) ∧ ∀ j, w.frozen? ⟨H, j, none⟩ = false := by
  rw [cell_of_row _ _ _ _ t (0, 0) hh, cell_of_row _ _ _ _ t (0, 0) hh, cell_of_row _ _ _ _ t (0, 0) hh, cell_of_row _ _ _ _ t (0, 0) hh, cell_of_row _ _ _ _ t (0, 0) hh, cell_of_row _ _ _ _ t (0, 0) hh]
  refine ⟨⟨rfl, rfl, rfl, rfl, rfl, rfl⟩, fun j => ?_⟩
  unfold World.frozen?
  rw [show w.heap[(⟨H, j, none⟩ : Addr).block]? = _ from hh]
  simp

theorem put6 {w2 : World} {H : Nat} {x0 x1 x2 x3 x4 x5 : Value} {t : TypeId} (h : w2.heap[H]? = some (.cells #[x0, x1, x2, x3, x4, x5] t (0, 0))) (y0 y1 y2 y3 y4 y5 : Value) : ((((((w2.setCell ⟨H, 0, none⟩ y0).setCell ⟨H, 1, none⟩ y1).setCell ⟨H, 2, none⟩ y2).setCell ⟨H, 3, none⟩ y3).setCell ⟨H, 4, none⟩ y4).setCell ⟨H, 5, none⟩ y5).heap[H]? = some (.cells #[y0, y1, y2, y3, y4, y5] t (0, 0)) := by
  simp [World.setCell, Array.getElem?_modify, h]
theorem mid_start (w : World) (op a b : Int) : Mid w ((w.alloc (.cells #[i64 0, i64 0, i64 0, i64 0, i64 0, i64 0] 96)).alloc (.cells #[i64 op, i64 a, i64 b, i64 0] 37)) op a b ((0 : Nat) : Int) := by
  refine ⟨?_, heap_at (by simp) _, (below_one w _).alloc (by simp) _⟩
  rw [Below.heap_alloc _ _ _ (by simp)]
  exact heap_at rfl _
set_option maxRecDepth 100000 in
set_option maxHeartbeats 3200000 in
theorem rat_read_n (w : World) (s : ByteArray) (j k m n : Nat) (u : List UInt8) (hm : m ≤ 2) (hu : u.length = m) (hn : 1 + m ≤ n) (hn2 : n ≤ 1 + m) (hj : j + n ≤ s.size) (hs : s.size ≤ maxLen) (h0 : ∀ h, (s[j]'h).toNat = k) (hk : k < 21) (hr : rg k = 0) (hz : szI k = (n : Nat)) (hb : ∀ i (hi : i < u.length) h, (s[j + 1 + i]'h).toNat = u[i].toNat) :
    Calls Tryd.prog 59 #[.string s, i64 j] w fun e w' => e = .returned (if isI ⟨k, 0, 0, nm u⟩ then gotV ⟨k, 0, 0, nm u⟩ (j + n) 0 else gotV zI 0 4) ∧ Below w.heap.size w w' := by
  unfold maxLen at hs
  have HZ : Hid (∀ w, Calls Tryd.prog 56 #[i64 k] w fun e w' => e = .returned (i64 n) ∧ w' = w) := fun w => by rw [← hz]; exact rsize_ok w k
  have HR : Hid (∀ w, Calls Tryd.prog 57 #[i64 k] w fun e w' => e = .returned (i64 0) ∧ w' = w) := fun w => by have := regs_ok w k; rw [rgI_nat hk, hr] at this; exact this
  have HI : Hid (∀ w, Calls Tryd.prog 37 #[inV ⟨k, 0, 0, nm u⟩] w fun e w' => e = .returned (.bool (isI ⟨k, 0, 0, nm u⟩)) ∧ Below w.heap.size w w') := fun w => is_ok w _
  have HU : Hid (u.length = m) := hu
  have HBy : Hid (∀ i (hi : i < u.length) h, (s[j + 1 + i]'h).toNat = u[i].toNat) := hb
  have hjI : (j : Int) < s.size := by omega
  have hjI2 : (j : Int) + n ≤ s.size := by omega
  have hnz : ((n : Int) == 0) = false := by simp; omega
  have hlt : decide ((s.size : Int) - (j : Int) < (n : Int)) = false := by simp; omega
  clear hz hr hu hb
  generalize isI ⟨k, 0, 0, nm u⟩ = T at *
  go_enter Tryd.func59, Tryd.ntmps59
  go_wp2_with (first | (go_at_call 56; refine (HZ.out _).mono ?_; rintro e w1 ⟨rfl, rfl⟩) | (go_at_call 57; refine (HR.out _).mono ?_; rintro e w1 ⟨rfl, rfl⟩))
  go_loopw [8] (fun v wr => ∃ (i x N : Nat), v = i64 x ∧ x = j + 1 + i ∧ i ≤ m ∧ N = nm (u.take i) ∧ Mid w wr k 0 0 N) (fun v _ => j + n - (intOf v).toNat)
  case atStart => exact ⟨0, j + 1, 0, by go_num, by omega, by omega, by simp [nm], mid_start w k 0 0⟩
  case round =>
    obtain ⟨i, x, N, rfl, hx, hi, hN, hmid⟩ := hrel
    have HM : Hid (Mid w wr k 0 0 N) := hmid
    have HNN : Hid (N = nm (u.take i)) := hN
    have HX0 : Hid (x = j + 1 + i) := hx
    have hx1 : j + 1 + i ≤ x := by omega
    have hx2 : x ≤ j + 1 + i := by omega
    obtain ⟨c0, c1, c2, c3, hfz⟩ := hmid.cells
    by_cases him : i < m
    · have hiu : i < u.length := by rw [HU.out]; exact him
      have hbyte : ∀ h, (s[x]'h).toNat = u[i].toNat := by rw [hx]; exact HBy.out i hiu
      have hN2 : N < 65536 := by
        rw [hN]
        refine Nat.lt_of_lt_of_le (nm_lt _) ?_
        have : (u.take i).length ≤ 2 := by rw [List.length_take]; omega
        exact Nat.le_trans (Nat.pow_le_pow_right (by omega) this) (by omega)
      have hnext : nm (u.take (i + 1)) = 256 * N + u[i].toNat := by rw [hN, ← List.take_append_getElem hiu, nm_snoc, Nat.mul_comm]
      have hby := u[i].toNat_lt
      have HX : Hid (nm (u.take (i + 1)) = 256 * N + u[i].toNat) := hnext
      have hxI : (x : Int) < s.size := by omega
      have hx0 : (0 : Int) ≤ (x : Int) := by omega
      have hltx : decide ((x : Int) < (j : Int) + (n : Int)) = true := by simp; omega
      clear hN hnext hmid hx
      generalize u[i].toNat = y at *
      go_wp2_with fail
      go_region
      all_goals
        go_wp2_with fail
        exact ⟨⟨i + 1, x + 1, 256 * N + y, by go_num, by rw [HX0.out]; omega, by omega, by rw [HX.out], (by first | exact HM.out.set _ | exact (HM.out.set _).drew | exact HM.out.drew.set _)⟩, by simp [intOf]; omega⟩
    · obtain rfl : i = m := by omega
      have hall : u.take i = u := List.take_of_length_le (by rw [HU.out]; exact Nat.le_refl _)
      rw [hall] at hN
      subst hN
      have hltx : decide ((x : Int) < (j : Int) + (n : Int)) = false := by simp; omega
      clear hmid hall hx
      go_wp2_with fail
      refine (HI.out _).mono ?_
      rintro e w2 ⟨rfl, hb2⟩
      have hw := HM.out.bel.size
      have hi2 := (Array.getElem?_eq_some_iff.1 HM.out.ins).1
      obtain ⟨⟨g0, g1, g2, g3, g4, g5⟩, gf⟩ := six_at _ _ _ _ _ _ 96 ((hb2.block _ (by omega)).trans HM.out.got)
      have f0 := gf 0
      have f1 := gf 1
      have f2 := gf 2
      have f3 := gf 3
      have f4 := gf 4
      have f5 := gf 5
      have d0 := (hb2.cell (p := ⟨w.heap.size + 1, 0, none⟩) hi2).trans c0
      have d1 := (hb2.cell (p := ⟨w.heap.size + 1, 1, none⟩) hi2).trans c1
      have d2 := (hb2.cell (p := ⟨w.heap.size + 1, 2, none⟩) hi2).trans c2
      have d3 := (hb2.cell (p := ⟨w.heap.size + 1, 3, none⟩) hi2).trans c3
      have HB2 : Hid (Below w.heap.size w w2) := HM.out.bel.trans (hb2.mono hw)
      have HG2 : Hid (w2.heap[w.heap.size]? = some (.cells #[i64 0, i64 0, i64 0, i64 0, i64 0, i64 0] 96 (0, 0))) := (hb2.block _ (by omega)).trans HM.out.got
      clear hb2 gf
      cases T
      · go_wp2_with fail
        have HBX : Below w.heap.size w ((((((w2.setCell ⟨w.heap.size, 0, none⟩ (i64 0)).setCell ⟨w.heap.size, 1, none⟩ (i64 0)).setCell ⟨w.heap.size, 2, none⟩ (i64 0)).setCell ⟨w.heap.size, 3, none⟩ (i64 0)).setCell ⟨w.heap.size, 4, none⟩ (i64 0)).setCell ⟨w.heap.size, 5, none⟩ (i64 4)) := (((((HB2.out.setCell (Nat.le_refl _) _).setCell (Nat.le_refl _) _).setCell (Nat.le_refl _) _).setCell (Nat.le_refl _) _).setCell (Nat.le_refl _) _).setCell (Nat.le_refl _) _
        obtain ⟨⟨e0, e1, e2, e3, e4, e5⟩, _⟩ := six_at _ _ _ _ _ _ 96 (put6 HG2.out (i64 0) (i64 0) (i64 0) (i64 0) (i64 0) (i64 4))
        generalize ((((((w2.setCell ⟨w.heap.size, 0, none⟩ (i64 0)).setCell ⟨w.heap.size, 1, none⟩ (i64 0)).setCell ⟨w.heap.size, 2, none⟩ (i64 0)).setCell ⟨w.heap.size, 3, none⟩ (i64 0)).setCell ⟨w.heap.size, 4, none⟩ (i64 0)).setCell ⟨w.heap.size, 5, none⟩ (i64 4)) = W at HBX e0 e1 e2 e3 e4 e5 ⊢
        exact bodyPost_ret (v := gotV ⟨0, 0, 0, 0⟩ 0 4) (by simp [results, Tryd.results59, go_sem, e0, e1, e2, e3, e4, e5]) rfl ⟨rfl, HBX⟩
      · go_wp2_with fail
        have HBX : Below w.heap.size w ((((((w2.setCell ⟨w.heap.size, 0, none⟩ (i64 k)).setCell ⟨w.heap.size, 1, none⟩ (i64 0)).setCell ⟨w.heap.size, 2, none⟩ (i64 0)).setCell ⟨w.heap.size, 3, none⟩ (i64 (nm u))).setCell ⟨w.heap.size, 4, none⟩ (i64 ((j : Int) + (n : Int)))).setCell ⟨w.heap.size, 5, none⟩ (i64 0)) := (((((HB2.out.setCell (Nat.le_refl _) _).setCell (Nat.le_refl _) _).setCell (Nat.le_refl _) _).setCell (Nat.le_refl _) _).setCell (Nat.le_refl _) _).setCell (Nat.le_refl _) _
        obtain ⟨⟨e0, e1, e2, e3, e4, e5⟩, _⟩ := six_at _ _ _ _ _ _ 96 (put6 HG2.out (i64 k) (i64 0) (i64 0) (i64 (nm u)) (i64 ((j : Int) + (n : Int))) (i64 0))
        generalize ((((((w2.setCell ⟨w.heap.size, 0, none⟩ (i64 k)).setCell ⟨w.heap.size, 1, none⟩ (i64 0)).setCell ⟨w.heap.size, 2, none⟩ (i64 0)).setCell ⟨w.heap.size, 3, none⟩ (i64 (nm u))).setCell ⟨w.heap.size, 4, none⟩ (i64 ((j : Int) + (n : Int)))).setCell ⟨w.heap.size, 5, none⟩ (i64 0)) = W at HBX e0 e1 e2 e3 e4 e5 ⊢
        exact bodyPost_ret (v := gotV ⟨k, 0, 0, nm u⟩ (j + n) 0) (by simp [results, Tryd.results59, go_sem, e0, e1, e2, e3, e4, e5]) rfl ⟨rfl, HBX⟩
set_option maxRecDepth 100000 in
set_option maxHeartbeats 3200000 in
theorem rat_read_r (w : World) (s : ByteArray) (j k d m n : Nat) (u : List UInt8) (hm : m ≤ 2) (hu : u.length = m) (hn : 2 + m ≤ n) (hn2 : n ≤ 2 + m) (hj : j + n ≤ s.size) (hs : s.size ≤ maxLen) (h0 : ∀ h, (s[j]'h).toNat = k) (h1 : ∀ h, (s[j + 1]'h).toNat = d) (hd : d < 256) (hk : k < 21) (r : Nat) (hr : rg k = r) (hr0 : 0 < r) (hz : szI k = (n : Nat)) (hb : ∀ i (hi : i < u.length) h, (s[j + 2 + i]'h).toNat = u[i].toNat) :
    Calls Tryd.prog 59 #[.string s, i64 j] w fun e w' => e = .returned (if isI ⟨k, ((d / 16 : Nat) : Int), ((d % 16 : Nat) : Int), nm u⟩ then gotV ⟨k, ((d / 16 : Nat) : Int), ((d % 16 : Nat) : Int), nm u⟩ (j + n) 0 else gotV zI 0 4) ∧ Below w.heap.size w w' := by
  unfold maxLen at hs
  have HZ : Hid (∀ w, Calls Tryd.prog 56 #[i64 k] w fun e w' => e = .returned (i64 n) ∧ w' = w) := fun w => by rw [← hz]; exact rsize_ok w k
  have HR : Hid (∀ w, Calls Tryd.prog 57 #[i64 k] w fun e w' => e = .returned (i64 r) ∧ w' = w) := fun w => by have := regs_ok w k; rw [rgI_nat hk, hr] at this; exact this
  have HI : Hid (∀ w, Calls Tryd.prog 37 #[inV ⟨k, ((d / 16 : Nat) : Int), ((d % 16 : Nat) : Int), nm u⟩] w fun e w' => e = .returned (.bool (isI ⟨k, ((d / 16 : Nat) : Int), ((d % 16 : Nat) : Int), nm u⟩)) ∧ Below w.heap.size w w') := fun w => is_ok w _
  have HU : Hid (u.length = m) := hu
  have HBy : Hid (∀ i (hi : i < u.length) h, (s[j + 2 + i]'h).toNat = u[i].toNat) := hb
  have hjI : (j : Int) < s.size := by omega
  have hjI2 : (j : Int) + n ≤ s.size := by omega
  have hnz : ((n : Int) == 0) = false := by simp; omega
  have hlt : decide ((s.size : Int) - (j : Int) < (n : Int)) = false := by simp; omega
  clear hz hr hu hb
  generalize isI ⟨k, ((d / 16 : Nat) : Int), ((d % 16 : Nat) : Int), nm u⟩ = T at *
  have hda : d / 16 < 16 := by omega
  have hdb : d % 16 < 16 := by omega
  have eA : (d : Int) / 16 = ((d / 16 : Nat) : Int) := by omega
  have eB : (d : Int) % 16 = ((d % 16 : Nat) : Int) := by omega
  have hj1 : (j : Int) + 1 < s.size := by omega
  generalize d / 16 = A at *
  generalize d % 16 = B at *
  go_enter Tryd.func59, Tryd.ntmps59
  go_wp2_with (first | (go_at_call 56; refine (HZ.out _).mono ?_; rintro e w1 ⟨rfl, rfl⟩) | (go_at_call 57; refine (HR.out _).mono ?_; rintro e w1 ⟨rfl, rfl⟩))
  go_loopw [8] (fun v wr => ∃ (i x N : Nat), v = i64 x ∧ x = j + 2 + i ∧ i ≤ m ∧ N = nm (u.take i) ∧ Mid w wr k (A : Int) (B : Int) N) (fun v _ => j + n - (intOf v).toNat)
  case atStart => exact ⟨0, j + 2, 0, by go_num, by omega, by omega, by simp [nm], mid_start w k (A : Int) (B : Int)⟩
  case round =>
    obtain ⟨i, x, N, rfl, hx, hi, hN, hmid⟩ := hrel
    have HM : Hid (Mid w wr k (A : Int) (B : Int) N) := hmid
    have HNN : Hid (N = nm (u.take i)) := hN
    have HX0 : Hid (x = j + 2 + i) := hx
    have hx1 : j + 2 + i ≤ x := by omega
    have hx2 : x ≤ j + 2 + i := by omega
    obtain ⟨c0, c1, c2, c3, hfz⟩ := hmid.cells
    by_cases him : i < m
    · have hiu : i < u.length := by rw [HU.out]; exact him
      have hbyte : ∀ h, (s[x]'h).toNat = u[i].toNat := by rw [hx]; exact HBy.out i hiu
      have hN2 : N < 65536 := by
        rw [hN]
        refine Nat.lt_of_lt_of_le (nm_lt _) ?_
        have : (u.take i).length ≤ 2 := by rw [List.length_take]; omega
        exact Nat.le_trans (Nat.pow_le_pow_right (by omega) this) (by omega)
      have hnext : nm (u.take (i + 1)) = 256 * N + u[i].toNat := by rw [hN, ← List.take_append_getElem hiu, nm_snoc, Nat.mul_comm]
      have hby := u[i].toNat_lt
      have HX : Hid (nm (u.take (i + 1)) = 256 * N + u[i].toNat) := hnext
      have hxI : (x : Int) < s.size := by omega
      have hx0 : (0 : Int) ≤ (x : Int) := by omega
      have hltx : decide ((x : Int) < (j : Int) + (n : Int)) = true := by simp; omega
      clear hN hnext hmid hx
      generalize u[i].toNat = y at *
      go_wp2_with fail
      go_region
      all_goals
        go_wp2_with fail
        exact ⟨⟨i + 1, x + 1, 256 * N + y, by go_num, by rw [HX0.out]; omega, by omega, by rw [HX.out], (by first | exact HM.out.set _ | exact (HM.out.set _).drew | exact HM.out.drew.set _)⟩, by simp [intOf]; omega⟩
    · obtain rfl : i = m := by omega
      have hall : u.take i = u := List.take_of_length_le (by rw [HU.out]; exact Nat.le_refl _)
      rw [hall] at hN
      subst hN
      have hltx : decide ((x : Int) < (j : Int) + (n : Int)) = false := by simp; omega
      clear hmid hall hx
      go_wp2_with fail
      refine (HI.out _).mono ?_
      rintro e w2 ⟨rfl, hb2⟩
      have hw := HM.out.bel.size
      have hi2 := (Array.getElem?_eq_some_iff.1 HM.out.ins).1
      obtain ⟨⟨g0, g1, g2, g3, g4, g5⟩, gf⟩ := six_at _ _ _ _ _ _ 96 ((hb2.block _ (by omega)).trans HM.out.got)
      have f0 := gf 0
      have f1 := gf 1
      have f2 := gf 2
      have f3 := gf 3
      have f4 := gf 4
      have f5 := gf 5
      have d0 := (hb2.cell (p := ⟨w.heap.size + 1, 0, none⟩) hi2).trans c0
      have d1 := (hb2.cell (p := ⟨w.heap.size + 1, 1, none⟩) hi2).trans c1
      have d2 := (hb2.cell (p := ⟨w.heap.size + 1, 2, none⟩) hi2).trans c2
      have d3 := (hb2.cell (p := ⟨w.heap.size + 1, 3, none⟩) hi2).trans c3
      have HB2 : Hid (Below w.heap.size w w2) := HM.out.bel.trans (hb2.mono hw)
      have HG2 : Hid (w2.heap[w.heap.size]? = some (.cells #[i64 0, i64 0, i64 0, i64 0, i64 0, i64 0] 96 (0, 0))) := (hb2.block _ (by omega)).trans HM.out.got
      clear hb2 gf
      cases T
      · go_wp2_with fail
        have HBX : Below w.heap.size w ((((((w2.setCell ⟨w.heap.size, 0, none⟩ (i64 0)).setCell ⟨w.heap.size, 1, none⟩ (i64 0)).setCell ⟨w.heap.size, 2, none⟩ (i64 0)).setCell ⟨w.heap.size, 3, none⟩ (i64 0)).setCell ⟨w.heap.size, 4, none⟩ (i64 0)).setCell ⟨w.heap.size, 5, none⟩ (i64 4)) := (((((HB2.out.setCell (Nat.le_refl _) _).setCell (Nat.le_refl _) _).setCell (Nat.le_refl _) _).setCell (Nat.le_refl _) _).setCell (Nat.le_refl _) _).setCell (Nat.le_refl _) _
        obtain ⟨⟨e0, e1, e2, e3, e4, e5⟩, _⟩ := six_at _ _ _ _ _ _ 96 (put6 HG2.out (i64 0) (i64 0) (i64 0) (i64 0) (i64 0) (i64 4))
        generalize ((((((w2.setCell ⟨w.heap.size, 0, none⟩ (i64 0)).setCell ⟨w.heap.size, 1, none⟩ (i64 0)).setCell ⟨w.heap.size, 2, none⟩ (i64 0)).setCell ⟨w.heap.size, 3, none⟩ (i64 0)).setCell ⟨w.heap.size, 4, none⟩ (i64 0)).setCell ⟨w.heap.size, 5, none⟩ (i64 4)) = W at HBX e0 e1 e2 e3 e4 e5 ⊢
        exact bodyPost_ret (v := gotV ⟨0, 0, 0, 0⟩ 0 4) (by simp [results, Tryd.results59, go_sem, e0, e1, e2, e3, e4, e5]) rfl ⟨rfl, HBX⟩
      · go_wp2_with fail
        have HBX : Below w.heap.size w ((((((w2.setCell ⟨w.heap.size, 0, none⟩ (i64 k)).setCell ⟨w.heap.size, 1, none⟩ (i64 (A : Int))).setCell ⟨w.heap.size, 2, none⟩ (i64 (B : Int))).setCell ⟨w.heap.size, 3, none⟩ (i64 (nm u))).setCell ⟨w.heap.size, 4, none⟩ (i64 ((j : Int) + (n : Int)))).setCell ⟨w.heap.size, 5, none⟩ (i64 0)) := (((((HB2.out.setCell (Nat.le_refl _) _).setCell (Nat.le_refl _) _).setCell (Nat.le_refl _) _).setCell (Nat.le_refl _) _).setCell (Nat.le_refl _) _).setCell (Nat.le_refl _) _
        obtain ⟨⟨e0, e1, e2, e3, e4, e5⟩, _⟩ := six_at _ _ _ _ _ _ 96 (put6 HG2.out (i64 k) (i64 (A : Int)) (i64 (B : Int)) (i64 (nm u)) (i64 ((j : Int) + (n : Int))) (i64 0))
        generalize ((((((w2.setCell ⟨w.heap.size, 0, none⟩ (i64 k)).setCell ⟨w.heap.size, 1, none⟩ (i64 (A : Int))).setCell ⟨w.heap.size, 2, none⟩ (i64 (B : Int))).setCell ⟨w.heap.size, 3, none⟩ (i64 (nm u))).setCell ⟨w.heap.size, 4, none⟩ (i64 ((j : Int) + (n : Int)))).setCell ⟨w.heap.size, 5, none⟩ (i64 0)) = W at HBX e0 e1 e2 e3 e4 e5 ⊢
        exact bodyPost_ret (v := gotV ⟨k, (A : Int), (B : Int), nm u⟩ (j + n) 0) (by simp [results, Tryd.results59, go_sem, e0, e1, e2, e3, e4, e5]) rfl ⟨rfl, HBX⟩
theorem nth_drop {l : List UInt8} {j : Nat} {c : UInt8} {r : List UInt8} (h : l.drop j = c :: r) (i : Nat) (hi : i < r.length) : ∀ h', ((⟨l.toArray⟩ : ByteArray)[j + 1 + i]'h').toNat = r[i].toNat := by
  intro h'
  have hj : j + 1 + i < l.length := by rw [ba_size] at h'; exact h'
  have e : l[j + 1 + i]? = some r[i] := by
    rw [show j + 1 + i = j + (i + 1) by omega, ← List.getElem?_drop, h]
    simp [List.getElem?_eq_getElem hi]
  have e2 : l[j + 1 + i] = r[i] := by
    rw [List.getElem?_eq_getElem hj] at e
    exact Option.some.inj e
  rw [← e2]
  rfl
theorem rat_any (w : World) (l : List UInt8) (hl : l.length ≤ maxLen) (p : Int) : Calls Tryd.prog 59 #[.string ⟨l.toArray⟩, i64 p] w fun e w' => e = .returned (gotV (atI l p) (atN l p) (atE l p)) ∧ Below w.heap.size w w' := by
  unfold atI atN atE
  by_cases h : 0 ≤ p ∧ p < l.length
  · rw [if_pos h, if_pos h, if_pos h]
    obtain ⟨j, rfl⟩ := Int.eq_ofNat_of_zero_le h.1
    rw [Int.toNat_natCast]
    have hj : j < l.length := by omega
    obtain ⟨c, r, hdr⟩ := drop_cons hj
    have hlen : (c :: r).length = l.length - j := by rw [← hdr, List.length_drop]
    have hsz := sz_le c.toNat
    have hm2 := nb_le c.toNat
    by_cases hc : c.toNat ≤ 20 ∧ sz c.toNat ≤ (c :: r).length
    · have hS : szI (c.toNat : Int) = (sz c.toNat : Nat) := by unfold szI; rw [if_pos (by omega), Int.toNat_natCast]
      have hread : Calls Tryd.prog 59 #[.string ⟨l.toArray⟩, i64 j] w fun e w' => e = .returned (if isI (parse ((c :: r).take (sz c.toNat))) then gotV (parse ((c :: r).take (sz c.toNat))) (j + (sz c.toNat : Nat)) 0 else gotV zI 0 4) ∧ Below w.heap.size w w' := by
        by_cases hr : 0 < rg c.toNat
        · have hszr : sz c.toNat = 2 + nb c.toNat := by unfold sz rc; rw [if_pos hr]
          cases r with
          | nil => simp at hlen hc; omega
          | cons d t =>
            have htl : nb c.toNat ≤ t.length := by have := hc.2; rw [hszr] at this; simp at this; omega
            have e : (c :: d :: t).take (sz c.toNat) = c :: d :: t.take (nb c.toNat) := by rw [hszr, Nat.add_comm]; rfl
            rw [e, parse_cons, if_pos hr]
            simp only [List.headD_cons, List.tail_cons]
            refine rat_read_r w ⟨l.toArray⟩ j c.toNat d.toNat (nb c.toNat) (sz c.toNat) (t.take (nb c.toNat)) hm2 (by rw [List.length_take]; omega) (by omega) (by omega) (by rw [ba_size]; have := hc.2; omega) (by rw [ba_size]; exact hl) (ba_get hdr) ?_ d.toNat_lt (by omega) _ rfl hr hS ?_
            · intro h'
              exact nth_drop hdr 0 (by simp) h'
            · intro i hi h'
              have hi2 : i < t.length := by rw [List.length_take] at hi; omega
              have := nth_drop hdr (i + 1) (by simp; omega) (by rw [show j + 1 + (i + 1) = j + 2 + i by omega]; exact h')
              simp only [List.getElem_cons_succ] at this
              rw [List.getElem_take, ← this]
              congr 2
              omega
        · have hszn : sz c.toNat = 1 + nb c.toNat := by unfold sz rc; rw [if_neg hr]
          have hrl : nb c.toNat ≤ r.length := by have := hc.2; rw [hszn] at this; simp at this; omega
          have e : (c :: r).take (sz c.toNat) = c :: r.take (nb c.toNat) := by rw [hszn, Nat.add_comm]; rfl
          rw [e, parse_cons, if_neg hr]
          refine rat_read_n w ⟨l.toArray⟩ j c.toNat (nb c.toNat) (sz c.toNat) (r.take (nb c.toNat)) hm2 (by rw [List.length_take]; omega) (by omega) (by omega) (by rw [ba_size]; have := hc.2; omega) (by rw [ba_size]; exact hl) (ba_get hdr) (by omega) (by omega) hS ?_
          intro i hi h'
          rw [List.getElem_take]
          exact nth_drop hdr i (by rw [List.length_take] at hi; omega) h'
      refine hread.mono ?_
      rintro e w' ⟨rfl, hb⟩
      refine ⟨?_, hb⟩
      obtain ⟨m, hm⟩ : ∃ m, sz c.toNat = m + 1 := ⟨sz c.toNat - 1, by omega⟩
      have et : (c :: r).take (sz c.toNat) = c :: r.take m := by rw [hm]; rfl
      by_cases hI : isI (parse ((c :: r).take (sz c.toNat))) = true
      · have hh : hd (l.drop j) = some (parse ((c :: r).take (sz c.toNat))) := by rw [hdr]; unfold hd; simp only; rw [if_pos ⟨hc.1, hc.2, hI⟩]
        have ho : (parse ((c :: r).take (sz c.toNat))).op = c.toNat := by rw [et, parse_op]
        rw [hh, if_pos hI]
        simp only [Option.getD_some, Option.isSome_some, if_true, ho, Int.toNat_natCast]
      · have hh : hd (l.drop j) = none := by rw [hdr]; unfold hd; simp only; rw [if_neg (fun x => hI x.2.2)]
        rw [hh, if_neg hI]
        rfl
    · have hh : hd (l.drop j) = none := by rw [hdr]; unfold hd; simp only; rw [if_neg (fun x => hc ⟨x.1, x.2.1⟩)]
      rw [hh]
      refine rat_size w ⟨l.toArray⟩ j c.toNat (by rw [ba_size]; exact hj) (ba_get hdr) c.toNat_lt ?_
      rw [ba_size]
      unfold szI
      by_cases h20 : c.toNat ≤ 20
      · right
        rw [if_pos (by omega), Int.toNat_natCast]
        omega
      · left
        rw [if_neg (by omega)]
  · rw [if_neg h, if_neg h, if_neg h]
    exact rat_arg w _ p (by rw [ba_size]; omega)
end Go.Proofs.YtobkehlkopkaeaaDoor
