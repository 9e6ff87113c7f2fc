/- What may turn of a world by a call, rows and slices as they are read, how arguments are read again; no statement is proved in this text. -/
import Derived.Test.YtihbbgcpdgnhoaaGreatDoorRows
import Derived.WalkKit
import Derived.ProofKit
import Derived.OpenShut
import Derived.RegionTactic
import Derived.ChangeAlike
import Derived.ChangeOld
import Derived.ShutString
import Derived.Carry
import Derived.Deep.Slices
import Derived.Deep.Fields
import Derived.Deep.RegionWith
import Derived.Deep.MidRow
import Derived.Deep.RegionHeld
import Derived.Deep.QuietTactic
import Derived.BigQuiet
import Derived.Laws.IdiomStrings
import Derived.Laws.OwnMore
import Derived.Lib.LazyBuf
import Derived.Deep.RegionHeld3
import Derived.Deep.AppendLies
import Derived.Deep.DrawnRows
import Derived.Deep.DeepCutAuto
namespace Go.Proofs.YtihbbgcpdgnhoaaGreatDoor
open Go.ChangeShapes Go.WideShapes Go.ChangeAt Go.RowKit Go.Deep

theorem own : ownKnob Tryz.prog.godebug = none := by kernel_rfl
theorem laidOut : laidOutB Tryz.prog = true := by kernel_rfl

/-- What may have turned of a world: block q, and what is new. -/
structure Touch (q : Nat) (w w' : World) : Prop where
  os : w'.os = w.os
  tape : w'.tape = w.tape
  output : w'.output = w.output
  size : w.heap.size ≤ w'.heap.size
  block : ∀ k, k < w.heap.size → k ≠ q → w'.heap[k]? = w.heap[k]?

theorem Touch.refl (q : Nat) (w : World) : Touch q w w := ⟨rfl, rfl, rfl, Nat.le_refl _, fun _ _ _ => rfl⟩
theorem Touch.trans {q : Nat} {a b c : World} (h : Touch q a b) (k : Touch q b c) : Touch q a c :=
  ⟨k.os.trans h.os, k.tape.trans h.tape, k.output.trans h.output, Nat.le_trans h.size k.size, fun i hi hq => (k.block i (Nat.lt_of_lt_of_le hi h.size) hq).trans (h.block i hi hq)⟩
theorem Touch.drew {q : Nat} {a w : World} (h : Touch q a w) : Touch q a w.drew := ⟨h.os, h.tape, h.output, h.size, h.block⟩
theorem Touch.alloc {q : Nat} {a w : World} (h : Touch q a w) (o : Obj) : Touch q a (w.alloc o) :=
  h.trans ⟨rfl, rfl, rfl, by simp, fun k hk _ => Below.heap_alloc _ _ _ hk⟩
theorem Touch.setCell {q : Nat} {a w : World} (h : Touch q a w) {p : Addr} (hp : p.block = q) (u : Value) : Touch q a (w.setCell p u) :=
  h.trans ⟨rfl, rfl, rfl, by simp [World.setCell], fun k _ hq => Below.heap_setCell _ _ _ _ (by omega)⟩
theorem Touch.setNew {q : Nat} {a w : World} (h : Touch q a w) {p : Addr} (hp : a.heap.size ≤ p.block) (u : Value) : Touch q a (w.setCell p u) :=
  ⟨h.os, h.tape, h.output, by have := h.size; simpa [World.setCell] using this, fun k hk hq => by rw [Below.heap_setCell _ _ _ _ (by omega)]; exact h.block k hk hq⟩
theorem Touch.setCells {q : Nat} {a : World} : ∀ (vs : List Value) (o : Nat) (w : World), Touch q a w → Touch q a (w.setCells q o vs)
  | [], _, _, h => h
  | v :: r, o, _, h => Touch.setCells r (o + 1) _ (h.setCell rfl v)
theorem Touch.cell {q : Nat} {w w' : World} (h : Touch q w w') {p : Addr} (hp : p.block < w.heap.size) (hq : p.block ≠ q) : w'.cell? p = w.cell? p := World.cell?_of_block (w := w) (h.block p.block hp hq)
theorem Touch.frozen {q : Nat} {w w' : World} (h : Touch q w w') {p : Addr} (hp : p.block < w.heap.size) (hq : p.block ≠ q) : w'.frozen? p = w.frozen? p := World.frozen?_of_block (w := w) (h.block p.block hp hq)
theorem Touch.below {q : Nat} {w w' : World} (h : Touch q w w') {B : Nat} (hB : B ≤ q) (hB2 : B ≤ w.heap.size) : Below B w w' :=
  ⟨h.os, h.tape, h.output, h.size, fun k hk => h.block k (by omega) (by omega)⟩

theorem Touch.of_drewN {q n : Nat} {w w' : World} (h : Touch q (w.drewN n) w') : Touch q w w' := ⟨h.os, h.tape, h.output, h.size, h.block⟩
theorem Touch.drewN {q : Nat} {w w' : World} (h : Touch q w w') (n : Nat) : Touch q w (w'.drewN n) := ⟨h.os, h.tape, h.output, h.size, h.block⟩
theorem below_of_drewN {B n : Nat} {w w' : World} (h : Below B (w.drewN n) w') : Below B w w' := ⟨h.os, h.tape, h.output, h.size, h.block⟩
theorem below_drewN {B : Nat} {w w' : World} (h : Below B w w') (n : Nat) : Below B w (w'.drewN n) := ⟨h.os, h.tape, h.output, h.size, h.block⟩

/-- What may have turned: two blocks, and what is new. -/
structure Touch2 (q r : Nat) (w w' : World) : Prop where
  os : w'.os = w.os
  tape : w'.tape = w.tape
  output : w'.output = w.output
  size : w.heap.size ≤ w'.heap.size
  block : ∀ k, k < w.heap.size → k ≠ q → k ≠ r → w'.heap[k]? = w.heap[k]?
theorem Touch2.refl (q r : Nat) (w : World) : Touch2 q r w w := ⟨rfl, rfl, rfl, Nat.le_refl _, fun _ _ _ _ => rfl⟩
theorem Touch2.trans {q r : Nat} {a b c : World} (h : Touch2 q r a b) (k : Touch2 q r b c) : Touch2 q r a c :=
  ⟨k.os.trans h.os, k.tape.trans h.tape, k.output.trans h.output, Nat.le_trans h.size k.size, fun i hi hq hr => (k.block i (Nat.lt_of_lt_of_le hi h.size) hq hr).trans (h.block i hi hq hr)⟩
theorem Touch.two {q : Nat} (r : Nat) {w w' : World} (h : Touch q w w') : Touch2 q r w w' := ⟨h.os, h.tape, h.output, h.size, fun k hk hq _ => h.block k hk hq⟩
theorem Touch.two' {r : Nat} (q : Nat) {w w' : World} (h : Touch r w w') : Touch2 q r w w' := ⟨h.os, h.tape, h.output, h.size, fun k hk _ hr => h.block k hk hr⟩
theorem Touch2.drew {q r : Nat} {a w : World} (h : Touch2 q r a w) : Touch2 q r a w.drew := ⟨h.os, h.tape, h.output, h.size, h.block⟩
theorem Touch2.below {q r : Nat} {w w' : World} (h : Touch2 q r w w') {B : Nat} (hB : B ≤ q) (hB2 : B ≤ r) (hB3 : B ≤ w.heap.size) : Below B w w' :=
  ⟨h.os, h.tape, h.output, h.size, fun k hk => h.block k (by omega) (by omega) (by omega)⟩
theorem Touch2.cell {q r : Nat} {w w' : World} (h : Touch2 q r w w') {p : Addr} (hp : p.block < w.heap.size) (hq : p.block ≠ q) (hr : p.block ≠ r) : w'.cell? p = w.cell? p := World.cell?_of_block (w := w) (h.block p.block hp hq hr)
theorem Touch2.frozen {q r : Nat} {w w' : World} (h : Touch2 q r w w') {p : Addr} (hp : p.block < w.heap.size) (hq : p.block ≠ q) (hr : p.block ≠ r) : w'.frozen? p = w.frozen? p := World.frozen?_of_block (w := w) (h.block p.block hp hq hr)

theorem heap_last (w : World) (o : Obj) : (w.alloc o).heap[w.heap.size]? = some o := by
  show (w.heap.push o)[w.heap.size]? = some o
  simp
theorem new_cell (w : World) (C : Array Value) (t : TypeId) (j : Nat) (v : Value) (h : C[j]? = some v) : (w.alloc (.cells C t)).cell? ⟨w.heap.size, j, none⟩ = some v := by
  rw [cell_of_row _ _ _ C t (0, 0) (heap_last w _)]; exact h
theorem new_frozen (w : World) (C : Array Value) (t : TypeId) (j : Nat) : (w.alloc (.cells C t)).frozen? ⟨w.heap.size, j, none⟩ = false := by
  unfold World.frozen?
  rw [show (w.alloc (.cells C t)).heap[(⟨w.heap.size, j, none⟩ : Addr).block]? = _ from heap_last w _]
  simp

/-- Arguments read again. -/
theorem trodAll_stays {H : Type} {enc : TypeId × Value → H} {P : Program} (hl : laidOutB P = true) {W W' : World} (hb : Below W.heap.size W W') : ∀ (ts : List TypeId) (vs : List Value) (ds : List (DataW H)) (ps : List MemPlace),
    (ts.all fun t => P.readableRec t && decide (t < P.types.size)) = true → DataW.TrodAll enc P W 0 (fun _ => true) true ts vs ds ps → DataW.TrodAll enc P W' 0 (fun b => decide (b < W.heap.size)) true ts vs ds ps
  | [], vs, ds, ps, _, h => by
    obtain ⟨rfl, rfl, rfl⟩ := trodAll_nil h
    exact trodAll_mk0
  | t :: ts, vs, ds, ps, ht, h => by
    simp only [List.all_cons, Bool.and_eq_true, decide_eq_true_eq] at ht
    obtain ⟨v, vs', d, ds', p, q, rfl, rfl, rfl, h0, hr⟩ := trodAll_cons h
    refine trodAll_cons_mk (Below.trod hl ht.1.1 ht.1.2 h0 hb ?_) (trodAll_stays hl hb ts vs' ds' q (by simpa using ht.2) hr)
    obtain ⟨m, hm⟩ := h0
    exact DataW.trod_lt m _ _ _ hm

/-! ### Slices as they are read -/
abbrev i64 (x : Int) : Value := .int .i64 x
def icells (xs : List Int) : List Value := xs.map i64
theorem icells_len (xs : List Int) : (icells xs).length = xs.length := by simp [icells]
theorem icells_app (xs ys : List Int) : icells (xs ++ ys) = icells xs ++ icells ys := by simp [icells]
theorem icells_one (xs : List Int) : ∀ v ∈ icells xs, v.oneCell' = true := by
  intro v hv
  obtain ⟨x, _, rfl⟩ := List.mem_map.1 hv
  rfl
/-- A slice of ints that reads as xs. -/
def ISl (w : World) (ao : Option Addr) (xs : List Int) : Prop :=
  xs = [] ∨ ∃ b off, ao = some ⟨b, off, none⟩ ∧ b < w.heap.size ∧ ∀ i x, xs[i]? = some x → w.cell? ⟨b, off + i, none⟩ = some (i64 x)
theorem ISl.below {w w' : World} {ao : Option Addr} {xs : List Int} (h : ISl w ao xs) (hb : Below w.heap.size w w') : ISl w' ao xs := by
  rcases h with h | ⟨b, off, rfl, hlt, hc⟩
  · exact Or.inl h
  · exact Or.inr ⟨b, off, rfl, Nat.lt_of_lt_of_le hlt hb.size, fun i x hx => by rw [hb.cell (by exact hlt)]; exact hc i x hx⟩
theorem ISl.at {w : World} {ao : Option Addr} {xs : List Int} (h : ISl w ao xs) {k : Nat} (hk : k < xs.length) : ∃ b off, ao = some ⟨b, off, none⟩ ∧ b < w.heap.size ∧ w.cell? ⟨b, off + k, none⟩ = some (i64 xs[k]) := by
  rcases h with rfl | ⟨b, off, rfl, hlt, hc⟩
  · simp at hk
  · exact ⟨b, off, rfl, hlt, hc k _ (List.getElem?_eq_getElem hk)⟩
theorem own_form {w : World} {base : Nat} {e : TypeId} {size : Nat} {v : Value} {n : Nat} {xs : List Value} (h : w.ownsRow base e size v (n + 1) xs) : ∃ g cap, v = .slice (some ⟨g, 0, none⟩) (n + 1) cap := by
  rcases h.2 with ⟨_, h0⟩ | ⟨g, cap, cur, rfl, _⟩
  · omega
  · exact ⟨g, cap, rfl⟩
/-- Whatever is owned is a slice of that length. -/
theorem own_slice {w : World} {base : Nat} {e : TypeId} {size : Nat} {v : Value} {n : Nat} {xs : List Value} (h : w.ownsRow base e size v n xs) : ∃ ao cap, v = .slice ao n cap ∧ ∀ g, ao = some g → base ≤ g.block := by
  rcases h.2 with ⟨rfl, rfl⟩ | ⟨g, cap, cur, rfl, hb, _⟩
  · exact ⟨none, 0, rfl, fun g h => by cases h⟩
  · exact ⟨_, cap, rfl, fun g h => by cases h; exact hb⟩
theorem own_ints {w : World} {base : Nat} {e : TypeId} {ao : Option Addr} {n cap : Nat} {xs : List Int} (h : w.ownsRow base e 1 (.slice ao n cap) n (icells xs)) : ISl w ao xs ∧ xs.length = n := by
  have hl : xs.length = n := by have := h.1; rw [icells_len] at this; omega
  refine ⟨?_, hl⟩
  rcases h.2 with ⟨_, rfl⟩ | ⟨g, cap', cur, hv, hb, hg, _, _, _, htake⟩
  · exact Or.inl (List.eq_nil_of_length_eq_zero hl)
  · cases hv
    refine Or.inr ⟨g, 0, rfl, (Array.getElem?_eq_some_iff.1 hg).1, fun i x hx => ?_⟩
    have hi : i < n := by have := (List.getElem?_eq_some_iff.1 hx).1; omega
    rw [h.cellAt (0 + i) (by omega), Nat.zero_add]
    simp [icells, hx]

/-! ### Frames by the blocks' types -/
def keeps (ts : List TypeId) : Obj → Bool
  | .cells _ t _ => !ts.contains t
  | _ => true
/-- What may have turned: blocks of given types from base on, and what is new. -/
structure Fr (base : Nat) (ts : List TypeId) (w w' : World) : Prop where
  below : Below base w w'
  kept : ∀ (k : Nat) (o : Obj), w.heap[k]? = some o → keeps ts o = true → w'.heap[k]? = some o
theorem Fr.refl (base : Nat) (ts : List TypeId) (w : World) : Fr base ts w w := ⟨Below.refl _ _, fun _ _ h _ => h⟩
theorem Fr.trans {base : Nat} {ts : List TypeId} {a b c : World} (h : Fr base ts a b) (k : Fr base ts b c) : Fr base ts a c :=
  ⟨h.below.trans k.below, fun i o hi ho => k.kept i o (h.kept i o hi ho) ho⟩
theorem Fr.size {base : Nat} {ts : List TypeId} {a b : World} (h : Fr base ts a b) : a.heap.size ≤ b.heap.size := h.below.size
theorem Fr.of_below {base : Nat} (ts : List TypeId) {w w' : World} (h : Below w.heap.size w w') (hb : base ≤ w.heap.size) : Fr base ts w w' :=
  ⟨h.mono hb, fun k _o hk _ => (h.block k (Array.getElem?_eq_some_iff.1 hk).1).trans hk⟩
theorem Fr.of_touch {base q : Nat} {ts : List TypeId} {w w' : World} {o : Obj} (h : Touch q w w') (hq : w.heap[q]? = some o) (ho : keeps ts o = false) (hb : base ≤ q) : Fr base ts w w' := by
  have hl := (Array.getElem?_eq_some_iff.1 hq).1
  refine ⟨h.below hb (by omega), fun k o' hk ho' => ?_⟩
  have hne : k ≠ q := fun e => by subst e; rw [hq] at hk; cases hk; rw [ho] at ho'; cases ho'
  exact (h.block k (Array.getElem?_eq_some_iff.1 hk).1 hne).trans hk
theorem Fr.lower {base base' : Nat} {ts : List TypeId} {w w' : World} (h : Fr base ts w w') (hb : base' ≤ base) : Fr base' ts w w' := ⟨h.below.mono hb, h.kept⟩
theorem Fr.drewN {base : Nat} {ts : List TypeId} {w w' : World} (h : Fr base ts w w') (n : Nat) : Fr base ts w (w'.drewN n) := ⟨below_drewN h.below n, h.kept⟩
theorem Fr.of_drewN {base n : Nat} {ts : List TypeId} {w w' : World} (h : Fr base ts (w.drewN n) w') : Fr base ts w w' := ⟨below_of_drewN h.below, h.kept⟩
theorem Fr.alloc {base : Nat} {ts : List TypeId} {w w' : World} (h : Fr base ts w w') (hb : base ≤ w'.heap.size) (o : Obj) : Fr base ts w (w'.alloc o) :=
  h.trans (Fr.of_below ts ((Below.refl _ _).alloc (Nat.le_refl _) o) hb)
theorem Fr.mono {base : Nat} {ts ts' : List TypeId} {w w' : World} (h : Fr base ts w w') (hs : ∀ o, keeps ts' o = true → keeps ts o = true) : Fr base ts' w w' := ⟨h.below, fun k o hk ho => h.kept k o hk (hs o ho)⟩
theorem blk_lt {w : World} {b : Nat} {o : Obj} (h : w.heap[b]? = some o) : b < w.heap.size := (Array.getElem?_eq_some_iff.1 h).1
theorem blk_cell {w : World} {b : Nat} {C : Array Value} {t : TypeId} (h : w.heap[b]? = some (.cells C t)) (j : Nat) : w.cell? ⟨b, j, none⟩ = C[j]? := cell_of_row w b j C t (0, 0) h
theorem blk_frozen {w : World} {b : Nat} {C : Array Value} {t : TypeId} (h : w.heap[b]? = some (.cells C t)) (j : Nat) : w.frozen? ⟨b, j, none⟩ = false := frozen_of_row w b j C t h
theorem blk_alloc {w : World} {b : Nat} {o : Obj} (h : w.heap[b]? = some o) (x : Obj) : (w.alloc x).heap[b]? = some o := by rw [Below.heap_alloc _ _ _ (blk_lt h)]; exact h
theorem blk_below {w w' : World} {b : Nat} {o : Obj} (h : w.heap[b]? = some o) (hb : Below w.heap.size w w') : w'.heap[b]? = some o := by rw [hb.block b (blk_lt h)]; exact h
end Go.Proofs.YtihbbgcpdgnhoaaGreatDoor
