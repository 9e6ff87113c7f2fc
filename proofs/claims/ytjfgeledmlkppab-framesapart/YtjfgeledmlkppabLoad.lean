/- Load of frames.Memory: the walk, and what may turn of a world by a call that writes one block; no statement is proved in this text. -/
import Derived.Test.YtjfgeledmlkppabBase
namespace Go.Proofs.Ytjfgeledmlkppab
open Go.ChangeShapes Go.WideShapes Go.ChangeAt Go.RowKit

/-- What may have turned of a world: block q, and what is new. -/
structure Touch (q : Nat) (w w' : World) : Prop where
  os : w'.os = w.os
  tape : w'.tape = w.tape
  output : w'.output = w.output
  size : w.heap.size ≤ w'.heap.size
  block : ∀ k, k < w.heap.size → k ≠ q → w'.heap[k]? = w.heap[k]?

theorem Touch.refl (q : Nat) (w : World) : Touch q w w := ⟨rfl, rfl, rfl, Nat.le_refl _, fun _ _ _ => rfl⟩
theorem Touch.trans {q : Nat} {a b c : World} (h : Touch q a b) (k : Touch q b c) : Touch q a c :=
  ⟨k.os.trans h.os, k.tape.trans h.tape, k.output.trans h.output, Nat.le_trans h.size k.size, fun i hi hq => (k.block i (Nat.lt_of_lt_of_le hi h.size) hq).trans (h.block i hi hq)⟩
theorem Touch.drew {q : Nat} {a w : World} (h : Touch q a w) : Touch q a w.drew := ⟨h.os, h.tape, h.output, h.size, h.block⟩
theorem Touch.alloc {q : Nat} {a w : World} (h : Touch q a w) (o : Obj) : Touch q a (w.alloc o) :=
  h.trans ⟨rfl, rfl, rfl, by simp, fun k hk _ => Below.heap_alloc _ _ _ hk⟩
theorem Touch.setCell {q : Nat} {a w : World} (h : Touch q a w) {p : Addr} (hp : p.block = q) (u : Value) : Touch q a (w.setCell p u) :=
  h.trans ⟨rfl, rfl, rfl, by simp [World.setCell], fun k _ hq => Below.heap_setCell _ _ _ _ (by omega)⟩
theorem Touch.setNew {q : Nat} {a w : World} (h : Touch q a w) {p : Addr} (hp : a.heap.size ≤ p.block) (u : Value) : Touch q a (w.setCell p u) :=
  ⟨h.os, h.tape, h.output, by have := h.size; simpa [World.setCell] using this, fun k hk hq => by rw [Below.heap_setCell _ _ _ _ (by omega)]; exact h.block k hk hq⟩
theorem Touch.setCells {q : Nat} {a : World} : ∀ (vs : List Value) (o : Nat) (w : World), Touch q a w → Touch q a (w.setCells q o vs)
  | [], _, _, h => h
  | v :: r, o, _, h => Touch.setCells r (o + 1) _ (h.setCell rfl v)
theorem Touch.setNews {q g : Nat} {a : World} (hg : a.heap.size ≤ g) : ∀ (vs : List Value) (o : Nat) (w : World), Touch q a w → Touch q a (w.setCells g o vs)
  | [], _, _, h => h
  | v :: r, o, _, h => Touch.setNews hg r (o + 1) _ (h.setNew hg v)
theorem Touch.cell {q : Nat} {w w' : World} (h : Touch q w w') {p : Addr} (hp : p.block < w.heap.size) (hq : p.block ≠ q) : w'.cell? p = w.cell? p := World.cell?_of_block (w := w) (h.block p.block hp hq)
theorem Touch.frozen {q : Nat} {w w' : World} (h : Touch q w w') {p : Addr} (hp : p.block < w.heap.size) (hq : p.block ≠ q) : w'.frozen? p = w.frozen? p := World.frozen?_of_block (w := w) (h.block p.block hp hq)
theorem Touch.below {q : Nat} {w w' : World} (h : Touch q w w') {B : Nat} (hB : B ≤ q) (hB2 : B ≤ w.heap.size) : Below B w w' :=
  ⟨h.os, h.tape, h.output, h.size, fun k hk => h.block k (by omega) (by omega)⟩

abbrev z16 : Array Value := #[.int .u8 0, .int .u8 0, .int .u8 0, .int .u8 0, .int .u8 0, .int .u8 0, .int .u8 0, .int .u8 0, .int .u8 0, .int .u8 0, .int .u8 0, .int .u8 0, .int .u8 0, .int .u8 0, .int .u8 0, .int .u8 0]

/-- s, and zeros behind it, sixteen bytes in all. -/
def pad (s : List UInt8) : List UInt8 := s ++ List.replicate (16 - s.length) 0
theorem pad_len (s : List UInt8) (h : s.length ≤ 16) : (pad s).length = 16 := by simp [pad]; omega

theorem heap_last (w : World) (o : Obj) : (w.alloc o).heap[w.heap.size]? = some o := by
  show (w.heap.push o)[w.heap.size]? = some o
  simp
theorem new_cell (w : World) (C : Array Value) (t : TypeId) (j : Nat) (v : Value) (h : C[j]? = some v) : (w.alloc (.cells C t)).cell? ⟨w.heap.size, j, none⟩ = some v := by
  rw [cell_of_row _ _ _ C t (0, 0) (heap_last w _)]; exact h
theorem new_frozen (w : World) (C : Array Value) (t : TypeId) (j : Nat) : (w.alloc (.cells C t)).frozen? ⟨w.heap.size, j, none⟩ = false := by
  unfold World.frozen?
  rw [show (w.alloc (.cells C t)).heap[(⟨w.heap.size, j, none⟩ : Addr).block]? = _ from heap_last w _]
  simp

set_option maxHeartbeats 400000 in
theorem load_ok (w : World) (p q n : Nat) (f : Nat) (s : ByteArray) (hpq : p ≠ q) (h1 : w.cell? ⟨p, 0, none⟩ = some (.slice (some ⟨q, 0, none⟩) n n)) (h : f < n) (hs : s.size ≤ 16) (ht : w.there q (f * 16) 16) :
    Calls Try.prog 17 #[.pointer (some ⟨p, 0, none⟩), .int .i64 f, .string s] w fun e w' => e = .returned (.int .i64 0) ∧ ∃ w2, w' = w2.setCells q (f * 16) (cells (pad s.data.toList)) ∧ Touch q w w2 ∧ ∀ x : Addr, x.block < w.heap.size → w2.cell? x = w.cell? x ∧ w2.frozen? x = w.frozen? x := by
  have hb : inB f n = true := by simp [inB]; omega
  have hs' : s.data.toList.length ≤ 16 := hs
  have hthere : (w.alloc (.cells z16 61)).there w.heap.size 0 s.size := fun j hj => by
    refine ⟨?_, new_frozen _ _ _ _⟩
    rw [cell_of_row _ _ _ z16 61 (0, 0) (heap_last w _)]
    simp; omega
  have hcp := run_copy_string (P := Try.prog) (w.alloc (.cells z16 61)) 54 9 3 5 w.heap.size 0 16 16 s (by kernel_rfl) size5 hs (fun j hj => (hthere j hj).1) (fun j hj => (hthere j hj).2)
  have hold : ∀ x : Addr, x.block < w.heap.size → ((w.alloc (.cells z16 61)).setCells w.heap.size 0 (cells s.data.toList)).cell? x = w.cell? x ∧ ((w.alloc (.cells z16 61)).setCells w.heap.size 0 (cells s.data.toList)).frozen? x = w.frozen? x := fun x hx =>
    ⟨by rw [World.cell?_setCells_out _ _ _ _ _ (fun e => absurd hx (by omega)), World.cell?_alloc_lt _ _ _ hx], by rw [World.frozen?_setCells, show (w.alloc (.cells z16 61)).frozen? ⟨x.block, x.off, x.spot⟩ = _ from World.frozen?_of_block (w := w) (Below.heap_alloc _ _ _ hx)]⟩
  have htouch : Touch q w ((w.alloc (.cells z16 61)).setCells w.heap.size 0 (cells s.data.toList)) := Touch.setNews (Nat.le_refl _) _ _ _ ((Touch.refl q w).alloc _)
  have hsrc : ((w.alloc (.cells z16 61)).setCells w.heap.size 0 (cells s.data.toList)).rangeAt w.heap.size 0 (cells (pad s.data.toList)) := fun j v hv => by
    have hj : j < 16 := by have := (List.getElem?_eq_some_iff.1 hv).1; rw [cells_len, pad_len _ hs'] at this; exact this
    by_cases hjs : j < s.data.toList.length
    · have := World.cell?_setCells_in w.heap.size (cells s.data.toList) 0 (w.alloc (.cells z16 61)) (fun i hi => (hthere i (by rw [cells_len] at hi; exact hi)).1) j (by rw [cells_len]; exact hjs)
      rw [this, ← hv]
      simp only [cells, pad, List.getElem?_map, List.getElem?_append_left hjs, List.getElem?_eq_getElem hjs, List.getElem_map, Option.map_some]
    · rw [World.cell?_setCells_out _ _ _ _ _ (fun _ _ => Or.inr (by rw [cells_len]; simpa using hjs))]
      refine new_cell _ _ _ _ _ ?_
      rw [← hv]
      simp only [cells, pad, List.getElem?_map, List.getElem?_append_right (Nat.le_of_not_lt hjs)]
      rw [show z16 = (List.replicate 16 (Value.int .u8 0)).toArray from rfl]
      simp only [List.getElem?_toArray, List.getElem?_replicate]
      rw [if_pos (by omega), if_pos (by omega)]
      rfl
  have hcp' : (Builtin.copy_ #[54, 9] 3 #[.slice (some ⟨w.heap.size, 0, none⟩) 16 16, .string s]).run Try.prog (w.alloc (.cells z16 61)) = .ok (goInt s.size) ((w.alloc (.cells z16 61)).setCells w.heap.size 0 (cells s.data.toList)) := hcp
  clear hcp
  generalize (w.alloc (.cells z16 61)).setCells w.heap.size 0 (cells s.data.toList) = w2 at *
  have hp := World.block_lt_of_cell? w _ h1
  have hq := World.block_lt_of_cell? w _ (Option.isSome_iff_exists.1 (ht 0 (by omega)).1).choose_spec
  have h2 : w2.cell? ⟨p, 0, none⟩ = some (.slice (some ⟨q, 0, none⟩) n n) := by rw [(hold _ hp).1]; exact h1
  have ht2 : w2.there q (f * 16) 16 := fun j hj => by
    have := hold ⟨q, f * 16 + j, none⟩ hq
    rw [this.1, this.2]; exact ht j hj
  have hS : w2.drew.cell? ⟨p, 0, none⟩ = some (.slice (some ⟨q, 0, none⟩) n n) ∧ w2.drew.rangeAt w.heap.size 0 (cells (pad s.data.toList)) ∧ w2.drew.there q (f * 16) 16 := ⟨by simpa using h2, by simpa using hsrc, by simpa using ht2⟩
  have HS : Hid _ := hS
  have HT : Hid _ := htouch
  have HO : Hid _ := hold
  have hlen : (cells (pad s.data.toList)).length = 16 := by rw [cells_len, pad_len _ hs']
  have hone := cells_one (pad s.data.toList)
  have hi : (Try.prog.info? 61).map (·.size) = some (cells (pad s.data.toList)).length := by rw [hlen]; exact info61
  have hu := Try.underlying61
  generalize cells (pad s.data.toList) = cs at *
  clear hS htouch hold hsrc ht2 ht hs' hthere
  go_enter Try.func17, Try.ntmps17
  go_wp2_with (go_at_call 26; refine (has_any _ _ _ _ _ h1).mono ?_; rintro e w3 ⟨rfl, rfl⟩)
  go_region_held (fun w' => w'.cell? ⟨p, 0, none⟩ = some (.slice (some ⟨q, 0, none⟩) n n) ∧ w'.rangeAt w3.heap.size 0 cs ∧ w'.there q (f * 16) 16) (first | exact HS.out | exact ⟨by rw [World.cell?_setCells_out _ _ _ _ _ (fun e => absurd e hpq)]; exact HS.out.1, World.rangeAt_setCells_apart HS.out.2.1 _ _ _ (Or.inl (by omega)), World.there_setCells HS.out.2.2 _ _ _⟩) (fail)
  go_wp2
  go_ret
  exact ⟨rfl, w2.drew, rfl, HT.out.drew, fun x hx => by simpa using HO.out x hx⟩
end Go.Proofs.Ytjfgeledmlkppab
