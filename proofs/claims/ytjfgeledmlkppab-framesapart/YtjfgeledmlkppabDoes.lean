/- imagolaw02's 'does': both memories do a step alike: its contract; no statement is proved in this text. -/
import Derived.Test.YtjfgeledmlkppabRefNew
namespace Go.Proofs.Ytjfgeledmlkppab
open Go.ChangeShapes Go.WideShapes Go.ChangeAt Go.RowKit

/-- What may have turned: two blocks, and what is new. -/
structure Touch2 (q r : Nat) (w w' : World) : Prop where
  os : w'.os = w.os
  tape : w'.tape = w.tape
  output : w'.output = w.output
  size : w.heap.size ≤ w'.heap.size
  block : ∀ k, k < w.heap.size → k ≠ q → k ≠ r → w'.heap[k]? = w.heap[k]?
theorem Touch2.refl (q r : Nat) (w : World) : Touch2 q r w w := ⟨rfl, rfl, rfl, Nat.le_refl _, fun _ _ _ _ => rfl⟩
theorem Touch2.trans {q r : Nat} {a b c : World} (h : Touch2 q r a b) (k : Touch2 q r b c) : Touch2 q r a c :=
  ⟨k.os.trans h.os, k.tape.trans h.tape, k.output.trans h.output, Nat.le_trans h.size k.size, fun i hi hq hr => (k.block i (Nat.lt_of_lt_of_le hi h.size) hq hr).trans (h.block i hi hq hr)⟩
theorem Touch.two {q : Nat} (r : Nat) {w w' : World} (h : Touch q w w') : Touch2 q r w w' := ⟨h.os, h.tape, h.output, h.size, fun k hk hq _ => h.block k hk hq⟩
theorem Touch.two' {r : Nat} (q : Nat) {w w' : World} (h : Touch r w w') : Touch2 q r w w' := ⟨h.os, h.tape, h.output, h.size, fun k hk _ hr => h.block k hk hr⟩
theorem Touch2.drew {q r : Nat} {a w : World} (h : Touch2 q r a w) : Touch2 q r a w.drew := ⟨h.os, h.tape, h.output, h.size, h.block⟩
theorem Touch2.alloc {q r : Nat} {a w : World} (h : Touch2 q r a w) (o : Obj) : Touch2 q r a (w.alloc o) :=
  h.trans ⟨rfl, rfl, rfl, by simp, fun k hk _ _ => Below.heap_alloc _ _ _ hk⟩
theorem Touch2.setNew {q r : Nat} {a w : World} (h : Touch2 q r a w) {p : Addr} (hp : a.heap.size ≤ p.block) (u : Value) : Touch2 q r a (w.setCell p u) :=
  ⟨h.os, h.tape, h.output, by have := h.size; simpa [World.setCell] using this, fun k hk hq hr => by rw [Below.heap_setCell _ _ _ _ (by omega)]; exact h.block k hk hq hr⟩
theorem Touch2.below {q r : Nat} {w w' : World} (h : Touch2 q r w w') {B : Nat} (hB : B ≤ q) (hB2 : B ≤ r) (hB3 : B ≤ w.heap.size) : Below B w w' :=
  ⟨h.os, h.tape, h.output, h.size, fun k hk => h.block k (by omega) (by omega) (by omega)⟩
theorem Touch2.cell {q r : Nat} {w w' : World} (h : Touch2 q r w w') {p : Addr} (hp : p.block < w.heap.size) (hq : p.block ≠ q) (hr : p.block ≠ r) : w'.cell? p = w.cell? p := World.cell?_of_block (w := w) (h.block p.block hp hq hr)
theorem Touch2.frozen {q r : Nat} {w w' : World} (h : Touch2 q r w w') {p : Addr} (hp : p.block < w.heap.size) (hq : p.block ≠ q) (hr : p.block ≠ r) : w'.frozen? p = w.frozen? p := World.frozen?_of_block (w := w) (h.block p.block hp hq hr)

theorem MemG.alloc {w : World} {p q n : Nat} {sv : Value} {l : List UInt8} (h : MemG w p q sv n l) (o : Obj) : MemG (w.alloc o) p q sv n l := by
  have hp := h.plt
  have hq := h.qlt
  refine h.same (fun x hx => ?_)
  have hlt : x.block < w.heap.size := by rcases hx with hx | hx <;> omega
  exact ⟨World.cell?_of_block (w := w) (Below.heap_alloc _ _ _ hlt), World.frozen?_of_block (w := w) (Below.heap_alloc _ _ _ hlt)⟩

/-- Two memories of the same bytes, in four blocks. -/
structure Both (w : World) (p q p2 r n cap : Nat) (l : List UInt8) : Prop where
  m : Mem w p q n l
  rm : RMem w p2 r n (16 * n) cap l
  cap : 16 * n ≤ cap
  n64 : n ≤ 64
  a1 : p ≠ r
  a2 : q ≠ r
  a3 : p2 ≠ q
  a4 : r ≠ q

def nextL (what a b at_ : Int) (u : UInt8) (s : List UInt8) (l : List UInt8) (n : Nat) : List UInt8 :=
  if what = 0 ∨ what = 1 then stL l a at_ u n else if what = 2 then cpL l a b n else if what = 3 then ldL l a [] n else if what = 4 then ldL l a s n else l

abbrev boxed (w : World) (what a b at_ : Int) (u : UInt8) (s : ByteArray) : World := w.alloc (.cells #[.int .i64 what, .int .i64 a, .int .i64 b, .int .i64 at_, .int .u8 u.toNat, .string s] 32)

/-- The boxed step reads as it did. -/
theorem box_cells (w : World) (C : Array Value) {q : Nat} {W W' : World} (h0 : ∀ o, W.cell? ⟨w.heap.size, o, none⟩ = C[o]?) (ht : Touch q W W') (hb : w.heap.size < W.heap.size) (hq : w.heap.size ≠ q) :
    (∀ o, W'.cell? ⟨w.heap.size, o, none⟩ = C[o]?) ∧ w.heap.size < W'.heap.size :=
  ⟨fun o => by rw [ht.cell (by exact hb) (by exact hq)]; exact h0 o, Nat.lt_of_lt_of_le hb ht.size⟩

def stepArr (what a b at_ : Int) (u : UInt8) (s : ByteArray) : Array Value := #[.int .i64 what, .int .i64 a, .int .i64 b, .int .i64 at_, .int .u8 u.toNat, .string s]
theorem boxed_cells (w : World) (what a b at_ : Int) (u : UInt8) (s : ByteArray) : (∀ o, (boxed w what a b at_ u s).drew.cell? ⟨w.heap.size, o, none⟩ = (stepArr what a b at_ u s)[o]?) ∧ w.heap.size < (boxed w what a b at_ u s).drew.heap.size := by
  refine ⟨fun o => ?_, by simp⟩
  rw [World.cell?_drew]
  exact cell_of_row _ _ _ (stepArr what a b at_ u s) 32 (0, 0) (heap_last w _)

set_option maxHeartbeats 1000000 in
theorem does_set0 {w : World} {p q p2 r n cap : Nat} {l : List UInt8} (h : Both w p q p2 r n cap l) (a b at_ : Int) (u : UInt8) (s : ByteArray) :
    Calls Try.prog 11 #[.pointer (some ⟨p, 0, none⟩), .pointer (some ⟨p2, 0, none⟩), .agg (stepCells 0 a b at_ u s).toArray] w fun e w' => e = .returned (.bool true) ∧ Touch2 q r w w' ∧ Both w' p q p2 r n cap (stL l a at_ u n) := by
  unfold stepCells
  have hb0 : Both (boxed w 0 a b at_ u s).drew p q p2 r n cap l := ⟨(h.m.alloc _).drew, (h.rm.alloc _).drew, h.cap, h.n64, h.a1, h.a2, h.a3, h.a4⟩
  have hc0 := boxed_cells w 0 a b at_ u s
  have hqlt := h.m.qlt
  have hrlt := h.rm.qlt
  have hq : w.heap.size ≠ q := by omega
  have hr : w.heap.size ≠ r := by omega
  have hT0 : Touch2 q r w (boxed w 0 a b at_ u s).drew := ((Touch2.refl q r w).alloc _).drew
  have H0 : Hid _ := hb0
  have C0 : Hid _ := hc0
  have T0 : Hid _ := hT0
  clear hb0 h hc0 hT0
  go_enter Try.func11, Try.ntmps11
  go_wp2_with fail
  go_region_held (fun w' => w'.cell? ⟨w.heap.size, 1, none⟩ = some (.int .i64 a) ∧ w'.cell? ⟨w.heap.size, 3, none⟩ = some (.int .i64 at_) ∧ w'.cell? ⟨w.heap.size, 4, none⟩ = some (.int .u8 u.toNat)) (first | exact ⟨C0.out.1 1, C0.out.1 3, C0.out.1 4⟩ | exact ⟨C2.out.1 1, C2.out.1 3, C2.out.1 4⟩ | exact ⟨C3.out.1 1, C3.out.1 3, C3.out.1 4⟩)
    (first
      | (go_at_call 19; refine (set_mem (q := q) (n := n) (l := l) ?_ _ _ _).mono ?_; exact H0.out.m; rintro e w2 ⟨rfl, ht, hm⟩; have HM2 : Hid _ := hm; have HR2 : Hid _ := H0.out.rm.touch ht H0.out.a3 H0.out.a4; have C2 : Hid _ := box_cells w _ C0.out.1 ht C0.out.2 hq; have T2 : Hid _ := T0.out.trans (ht.two r); clear hm ht)
      | (go_at_call 21; refine (rset_mem (r := r) (n := n) (m := 16 * n) (cap := cap) (l := l) ?_ rfl H0.out.n64 _ _ _).mono ?_; exact HR2.out; rintro e w3 ⟨rfl, ht, hm⟩; have HR3 : Hid _ := hm; have HM3 : Hid _ := HM2.out.touch ht H0.out.a1 H0.out.a2; have C3 : Hid _ := box_cells w _ C2.out.1 ht C2.out.2 hr; have T3 : Hid _ := T2.out.trans (ht.two' q); clear hm ht))
  go_wp2_with fail
  go_ret
  exact ⟨by simp, T3.out, HM3.out, HR3.out, H0.out.cap, H0.out.n64, H0.out.a1, H0.out.a2, H0.out.a3, H0.out.a4⟩

set_option maxHeartbeats 1000000 in
theorem does_set1 {w : World} {p q p2 r n cap : Nat} {l : List UInt8} (h : Both w p q p2 r n cap l) (a b at_ : Int) (u : UInt8) (s : ByteArray) :
    Calls Try.prog 11 #[.pointer (some ⟨p, 0, none⟩), .pointer (some ⟨p2, 0, none⟩), .agg (stepCells 1 a b at_ u s).toArray] w fun e w' => e = .returned (.bool true) ∧ Touch2 q r w w' ∧ Both w' p q p2 r n cap (stL l a at_ u n) := by
  unfold stepCells
  have hb0 : Both (boxed w 1 a b at_ u s).drew p q p2 r n cap l := ⟨(h.m.alloc _).drew, (h.rm.alloc _).drew, h.cap, h.n64, h.a1, h.a2, h.a3, h.a4⟩
  have hc0 := boxed_cells w 1 a b at_ u s
  have hqlt := h.m.qlt
  have hrlt := h.rm.qlt
  have hq : w.heap.size ≠ q := by omega
  have hr : w.heap.size ≠ r := by omega
  have hT0 : Touch2 q r w (boxed w 1 a b at_ u s).drew := ((Touch2.refl q r w).alloc _).drew
  have H0 : Hid _ := hb0
  have C0 : Hid _ := hc0
  have T0 : Hid _ := hT0
  clear hb0 h hc0 hT0
  go_enter Try.func11, Try.ntmps11
  go_wp2_with fail
  go_region_held (fun w' => w'.cell? ⟨w.heap.size, 1, none⟩ = some (.int .i64 a) ∧ w'.cell? ⟨w.heap.size, 3, none⟩ = some (.int .i64 at_) ∧ w'.cell? ⟨w.heap.size, 4, none⟩ = some (.int .u8 u.toNat)) (first | exact ⟨C0.out.1 1, C0.out.1 3, C0.out.1 4⟩ | exact ⟨C2.out.1 1, C2.out.1 3, C2.out.1 4⟩ | exact ⟨C3.out.1 1, C3.out.1 3, C3.out.1 4⟩)
    (first
      | (go_at_call 19; refine (set_mem (q := q) (n := n) (l := l) ?_ _ _ _).mono ?_; exact H0.out.m; rintro e w2 ⟨rfl, ht, hm⟩; have HM2 : Hid _ := hm; have HR2 : Hid _ := H0.out.rm.touch ht H0.out.a3 H0.out.a4; have C2 : Hid _ := box_cells w _ C0.out.1 ht C0.out.2 hq; have T2 : Hid _ := T0.out.trans (ht.two r); clear hm ht)
      | (go_at_call 21; refine (rset_mem (r := r) (n := n) (m := 16 * n) (cap := cap) (l := l) ?_ rfl H0.out.n64 _ _ _).mono ?_; exact HR2.out; rintro e w3 ⟨rfl, ht, hm⟩; have HR3 : Hid _ := hm; have HM3 : Hid _ := HM2.out.touch ht H0.out.a1 H0.out.a2; have C3 : Hid _ := box_cells w _ C2.out.1 ht C2.out.2 hr; have T3 : Hid _ := T2.out.trans (ht.two' q); clear hm ht))
  go_wp2_with fail
  go_ret
  exact ⟨by simp, T3.out, HM3.out, HR3.out, H0.out.cap, H0.out.n64, H0.out.a1, H0.out.a2, H0.out.a3, H0.out.a4⟩

set_option maxHeartbeats 1000000 in
theorem does_copy {w : World} {p q p2 r n cap : Nat} {l : List UInt8} (h : Both w p q p2 r n cap l) (a b at_ : Int) (u : UInt8) (s : ByteArray) :
    Calls Try.prog 11 #[.pointer (some ⟨p, 0, none⟩), .pointer (some ⟨p2, 0, none⟩), .agg (stepCells 2 a b at_ u s).toArray] w fun e w' => e = .returned (.bool true) ∧ Touch2 q r w w' ∧ Both w' p q p2 r n cap (cpL l a b n) := by
  unfold stepCells
  have hb0 : Both (boxed w 2 a b at_ u s).drew p q p2 r n cap l := ⟨(h.m.alloc _).drew, (h.rm.alloc _).drew, h.cap, h.n64, h.a1, h.a2, h.a3, h.a4⟩
  have hc0 := boxed_cells w 2 a b at_ u s
  have hqlt := h.m.qlt
  have hrlt := h.rm.qlt
  have hq : w.heap.size ≠ q := by omega
  have hr : w.heap.size ≠ r := by omega
  have hT0 : Touch2 q r w (boxed w 2 a b at_ u s).drew := ((Touch2.refl q r w).alloc _).drew
  have H0 : Hid _ := hb0
  have C0 : Hid _ := hc0
  have T0 : Hid _ := hT0
  clear hb0 h hc0 hT0
  go_enter Try.func11, Try.ntmps11
  go_wp2_with fail
  go_region_held (fun w' => w'.cell? ⟨w.heap.size, 1, none⟩ = some (.int .i64 a) ∧ w'.cell? ⟨w.heap.size, 2, none⟩ = some (.int .i64 b)) (first | exact ⟨C0.out.1 1, C0.out.1 2⟩ | exact ⟨C2.out.1 1, C2.out.1 2⟩ | exact ⟨C3.out.1 1, C3.out.1 2⟩)
    (first
      | (go_at_call 18; refine (copy_mem (q := q) (n := n) (l := l) ?_ _ _).mono ?_; exact H0.out.m; rintro e w2 ⟨rfl, ht, hm⟩; have HM2 : Hid _ := hm; have HR2 : Hid _ := H0.out.rm.touch ht H0.out.a3 H0.out.a4; have C2 : Hid _ := box_cells w _ C0.out.1 ht C0.out.2 hq; have T2 : Hid _ := T0.out.trans (ht.two r); clear hm ht)
      | (go_at_call 22; refine (rcopy_mem (r := r) (n := n) (m := 16 * n) (cap := cap) (l := l) ?_ rfl H0.out.n64 H0.out.cap _ _).mono ?_; exact HR2.out; rintro e w3 ⟨rfl, ht, hm⟩; have HR3 : Hid _ := hm; have HM3 : Hid _ := HM2.out.touch ht H0.out.a1 H0.out.a2; have C3 : Hid _ := box_cells w _ C2.out.1 ht C2.out.2 hr; have T3 : Hid _ := T2.out.trans (ht.two' q); clear hm ht))
  go_wp2_with fail
  go_ret
  exact ⟨by simp, T3.out, HM3.out, HR3.out, H0.out.cap, H0.out.n64, H0.out.a1, H0.out.a2, H0.out.a3, H0.out.a4⟩

set_option maxHeartbeats 1000000 in
theorem does_clear {w : World} {p q p2 r n cap : Nat} {l : List UInt8} (h : Both w p q p2 r n cap l) (a b at_ : Int) (u : UInt8) (s : ByteArray) :
    Calls Try.prog 11 #[.pointer (some ⟨p, 0, none⟩), .pointer (some ⟨p2, 0, none⟩), .agg (stepCells 3 a b at_ u s).toArray] w fun e w' => e = .returned (.bool true) ∧ Touch2 q r w w' ∧ Both w' p q p2 r n cap (ldL l a [] n) := by
  unfold stepCells
  have hb0 : Both (boxed w 3 a b at_ u s).drew p q p2 r n cap l := ⟨(h.m.alloc _).drew, (h.rm.alloc _).drew, h.cap, h.n64, h.a1, h.a2, h.a3, h.a4⟩
  have hc0 := boxed_cells w 3 a b at_ u s
  have hqlt := h.m.qlt
  have hrlt := h.rm.qlt
  have hq : w.heap.size ≠ q := by omega
  have hr : w.heap.size ≠ r := by omega
  have hT0 : Touch2 q r w (boxed w 3 a b at_ u s).drew := ((Touch2.refl q r w).alloc _).drew
  have H0 : Hid _ := hb0
  have C0 : Hid _ := hc0
  have T0 : Hid _ := hT0
  clear hb0 h hc0 hT0
  go_enter Try.func11, Try.ntmps11
  go_wp2_with fail
  go_region_held (fun w' => w'.cell? ⟨w.heap.size, 1, none⟩ = some (.int .i64 a)) (first | exact C0.out.1 1 | exact C2.out.1 1 | exact C3.out.1 1)
    (first
      | (go_at_call 20; refine (clear_mem (q := q) (n := n) (l := l) ?_ _).mono ?_; exact H0.out.m; rintro e w2 ⟨rfl, ht, hm⟩; have HM2 : Hid _ := hm; have HR2 : Hid _ := H0.out.rm.touch ht H0.out.a3 H0.out.a4; have C2 : Hid _ := box_cells w _ C0.out.1 ht C0.out.2 hq; have T2 : Hid _ := T0.out.trans (ht.two r); clear hm ht)
      | (go_at_call 23; refine (rload_mem (r := r) (n := n) (m := 16 * n) (cap := cap) (l := l) ?_ rfl H0.out.n64 _ _).mono ?_; exact HR2.out; rintro e w3 ⟨rfl, ht, hm⟩; have HR3 : Hid _ := hm; have HM3 : Hid _ := HM2.out.touch ht H0.out.a1 H0.out.a2; have C3 : Hid _ := box_cells w _ C2.out.1 ht C2.out.2 hr; have T3 : Hid _ := T2.out.trans (ht.two' q); clear hm ht))
  go_wp2_with fail
  go_ret
  exact ⟨by simp, T3.out, HM3.out, HR3.out, H0.out.cap, H0.out.n64, H0.out.a1, H0.out.a2, H0.out.a3, H0.out.a4⟩

set_option maxHeartbeats 1000000 in
theorem does_load {w : World} {p q p2 r n cap : Nat} {l : List UInt8} (h : Both w p q p2 r n cap l) (a b at_ : Int) (u : UInt8) (s : ByteArray) :
    Calls Try.prog 11 #[.pointer (some ⟨p, 0, none⟩), .pointer (some ⟨p2, 0, none⟩), .agg (stepCells 4 a b at_ u s).toArray] w fun e w' => e = .returned (.bool true) ∧ Touch2 q r w w' ∧ Both w' p q p2 r n cap (ldL l a s.data.toList n) := by
  unfold stepCells
  have hb0 : Both (boxed w 4 a b at_ u s).drew p q p2 r n cap l := ⟨(h.m.alloc _).drew, (h.rm.alloc _).drew, h.cap, h.n64, h.a1, h.a2, h.a3, h.a4⟩
  have hc0 := boxed_cells w 4 a b at_ u s
  have hqlt := h.m.qlt
  have hrlt := h.rm.qlt
  have hq : w.heap.size ≠ q := by omega
  have hr : w.heap.size ≠ r := by omega
  have hT0 : Touch2 q r w (boxed w 4 a b at_ u s).drew := ((Touch2.refl q r w).alloc _).drew
  have H0 : Hid _ := hb0
  have C0 : Hid _ := hc0
  have T0 : Hid _ := hT0
  clear hb0 h hc0 hT0
  go_enter Try.func11, Try.ntmps11
  go_wp2_with fail
  go_region_held (fun w' => w'.cell? ⟨w.heap.size, 1, none⟩ = some (.int .i64 a) ∧ w'.cell? ⟨w.heap.size, 5, none⟩ = some (.string s)) (first | exact ⟨C0.out.1 1, C0.out.1 5⟩ | exact ⟨C2.out.1 1, C2.out.1 5⟩ | exact ⟨C3.out.1 1, C3.out.1 5⟩)
    (first
      | (go_at_call 17; refine (load_mem (q := q) (n := n) (l := l) ?_ _ _).mono ?_; exact H0.out.m; rintro e w2 ⟨rfl, ht, hm⟩; have HM2 : Hid _ := hm; have HR2 : Hid _ := H0.out.rm.touch ht H0.out.a3 H0.out.a4; have C2 : Hid _ := box_cells w _ C0.out.1 ht C0.out.2 hq; have T2 : Hid _ := T0.out.trans (ht.two r); clear hm ht)
      | (go_at_call 23; refine (rload_mem (r := r) (n := n) (m := 16 * n) (cap := cap) (l := l) ?_ rfl H0.out.n64 _ _).mono ?_; exact HR2.out; rintro e w3 ⟨rfl, ht, hm⟩; have HR3 : Hid _ := hm; have HM3 : Hid _ := HM2.out.touch ht H0.out.a1 H0.out.a2; have C3 : Hid _ := box_cells w _ C2.out.1 ht C2.out.2 hr; have T3 : Hid _ := T2.out.trans (ht.two' q); clear hm ht))
  go_wp2_with fail
  go_ret
  exact ⟨by simp, T3.out, HM3.out, HR3.out, H0.out.cap, H0.out.n64, H0.out.a1, H0.out.a2, H0.out.a3, H0.out.a4⟩

set_option maxHeartbeats 1000000 in
theorem does_other {w : World} {p q p2 r n cap : Nat} {l : List UInt8} (h : Both w p q p2 r n cap l) (what a b at_ : Int) (u : UInt8) (s : ByteArray) (h0 : ¬ what = 0) (h1 : ¬ what = 1) (h2 : ¬ what = 2) (h3 : ¬ what = 3) (h4 : ¬ what = 4) :
    Calls Try.prog 11 #[.pointer (some ⟨p, 0, none⟩), .pointer (some ⟨p2, 0, none⟩), .agg (stepCells what a b at_ u s).toArray] w fun e w' => e = .returned (.bool true) ∧ Touch2 q r w w' ∧ Both w' p q p2 r n cap l := by
  unfold stepCells
  have hb0 : Both (boxed w what a b at_ u s) p q p2 r n cap l := ⟨h.m.alloc _, h.rm.alloc _, h.cap, h.n64, h.a1, h.a2, h.a3, h.a4⟩
  have H0 : Hid _ := hb0
  clear hb0 h
  go_enter Try.func11, Try.ntmps11
  go_wp2_with fail
  go_ret
  exact ⟨rfl, (Touch2.refl q r w).alloc _, H0.out⟩

theorem does_any {w : World} {p q p2 r n cap : Nat} {l : List UInt8} (h : Both w p q p2 r n cap l) (what a b at_ : Int) (u : UInt8) (s : ByteArray) :
    Calls Try.prog 11 #[.pointer (some ⟨p, 0, none⟩), .pointer (some ⟨p2, 0, none⟩), .agg (stepCells what a b at_ u s).toArray] w fun e w' => e = .returned (.bool true) ∧ Touch2 q r w w' ∧ Both w' p q p2 r n cap (nextL what a b at_ u s.data.toList l n) := by
  unfold nextL
  by_cases h0 : what = 0
  · subst h0; rw [if_pos (Or.inl rfl)]; exact does_set0 h a b at_ u s
  by_cases h1 : what = 1
  · subst h1; rw [if_pos (Or.inr rfl)]; exact does_set1 h a b at_ u s
  rw [if_neg (by omega)]
  by_cases h2 : what = 2
  · subst h2; rw [if_pos rfl]; exact does_copy h a b at_ u s
  rw [if_neg h2]
  by_cases h3 : what = 3
  · subst h3; rw [if_pos rfl]; exact does_clear h a b at_ u s
  rw [if_neg h3]
  by_cases h4 : what = 4
  · subst h4; rw [if_pos rfl]; exact does_load h a b at_ u s
  rw [if_neg h4]
  exact does_other h what a b at_ u s h0 h1 h2 h3 h4
end Go.Proofs.Ytjfgeledmlkppab
