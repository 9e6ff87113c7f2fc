/- What may turn of a world by a call, rows and slices as they are read, how arguments are read again; no statement is proved in this text. -/
import Derived.Test.YtblhoaggonjhkaaRows
import Derived.WalkKit
import Derived.ProofKit
import Derived.OpenShut
import Derived.RegionTactic
import Derived.ChangeAlike
import Derived.ChangeOld
import Derived.ShutString
import Derived.Carry
import Derived.Deep.Slices
import Derived.Deep.Fields
import Derived.Deep.RegionWith
import Derived.Deep.MidRow
import Derived.Deep.RegionHeld
import Derived.Deep.QuietTactic
import Derived.BigQuiet
import Derived.Laws.IdiomStrings
import Derived.Laws.OwnMore
import Derived.Lib.LazyBuf
import Derived.Maps.Own
import Derived.Maps.OwnSet
namespace Go.Proofs.Ytblhoaggonjhkaa
open Go.ChangeShapes Go.WideShapes Go.ChangeAt Go.RowKit Go.Deep

theorem own : ownKnob Try.prog.godebug = none := by kernel_rfl
theorem laidOut : laidOutB Try.prog = true := by kernel_rfl

/-- What may have turned of a world: block q, and what is new. -/
structure Touch (q : Nat) (w w' : World) : Prop where
  os : w'.os = w.os
  tape : w'.tape = w.tape
  output : w'.output = w.output
  size : w.heap.size ≤ w'.heap.size
  block : ∀ k, k < w.heap.size → k ≠ q → w'.heap[k]? = w.heap[k]?

theorem Touch.refl (q : Nat) (w : World) : Touch q w w := ⟨rfl, rfl, rfl, Nat.le_refl _, fun _ _ _ => rfl⟩
theorem Touch.trans {q : Nat} {a b c : World} (h : Touch q a b) (k : Touch q b c) : Touch q a c :=
  ⟨k.os.trans h.os, k.tape.trans h.tape, k.output.trans h.output, Nat.le_trans h.size k.size, fun i hi hq => (k.block i (Nat.lt_of_lt_of_le hi h.size) hq).trans (h.block i hi hq)⟩
theorem Touch.drew {q : Nat} {a w : World} (h : Touch q a w) : Touch q a w.drew := ⟨h.os, h.tape, h.output, h.size, h.block⟩
theorem Touch.alloc {q : Nat} {a w : World} (h : Touch q a w) (o : Obj) : Touch q a (w.alloc o) :=
  h.trans ⟨rfl, rfl, rfl, by simp, fun k hk _ => Below.heap_alloc _ _ _ hk⟩
theorem Touch.setCell {q : Nat} {a w : World} (h : Touch q a w) {p : Addr} (hp : p.block = q) (u : Value) : Touch q a (w.setCell p u) :=
  h.trans ⟨rfl, rfl, rfl, by simp [World.setCell], fun k _ hq => Below.heap_setCell _ _ _ _ (by omega)⟩
theorem Touch.setNew {q : Nat} {a w : World} (h : Touch q a w) {p : Addr} (hp : a.heap.size ≤ p.block) (u : Value) : Touch q a (w.setCell p u) :=
  ⟨h.os, h.tape, h.output, by have := h.size; simpa [World.setCell] using this, fun k hk hq => by rw [Below.heap_setCell _ _ _ _ (by omega)]; exact h.block k hk hq⟩
theorem Touch.setCells {q : Nat} {a : World} : ∀ (vs : List Value) (o : Nat) (w : World), Touch q a w → Touch q a (w.setCells q o vs)
  | [], _, _, h => h
  | v :: r, o, _, h => Touch.setCells r (o + 1) _ (h.setCell rfl v)
theorem Touch.cell {q : Nat} {w w' : World} (h : Touch q w w') {p : Addr} (hp : p.block < w.heap.size) (hq : p.block ≠ q) : w'.cell? p = w.cell? p := World.cell?_of_block (w := w) (h.block p.block hp hq)
theorem Touch.frozen {q : Nat} {w w' : World} (h : Touch q w w') {p : Addr} (hp : p.block < w.heap.size) (hq : p.block ≠ q) : w'.frozen? p = w.frozen? p := World.frozen?_of_block (w := w) (h.block p.block hp hq)
theorem Touch.below {q : Nat} {w w' : World} (h : Touch q w w') {B : Nat} (hB : B ≤ q) (hB2 : B ≤ w.heap.size) : Below B w w' :=
  ⟨h.os, h.tape, h.output, h.size, fun k hk => h.block k (by omega) (by omega)⟩

theorem Touch.of_drewN {q n : Nat} {w w' : World} (h : Touch q (w.drewN n) w') : Touch q w w' := ⟨h.os, h.tape, h.output, h.size, h.block⟩
theorem Touch.drewN {q : Nat} {w w' : World} (h : Touch q w w') (n : Nat) : Touch q w (w'.drewN n) := ⟨h.os, h.tape, h.output, h.size, h.block⟩
theorem below_of_drewN {B n : Nat} {w w' : World} (h : Below B (w.drewN n) w') : Below B w w' := ⟨h.os, h.tape, h.output, h.size, h.block⟩
theorem below_drewN {B : Nat} {w w' : World} (h : Below B w w') (n : Nat) : Below B w (w'.drewN n) := ⟨h.os, h.tape, h.output, h.size, h.block⟩

/-- What may have turned: two blocks, and what is new. -/
structure Touch2 (q r : Nat) (w w' : World) : Prop where
  os : w'.os = w.os
  tape : w'.tape = w.tape
  output : w'.output = w.output
  size : w.heap.size ≤ w'.heap.size
  block : ∀ k, k < w.heap.size → k ≠ q → k ≠ r → w'.heap[k]? = w.heap[k]?
theorem Touch2.refl (q r : Nat) (w : World) : Touch2 q r w w := ⟨rfl, rfl, rfl, Nat.le_refl _, fun _ _ _ _ => rfl⟩
theorem Touch2.trans {q r : Nat} {a b c : World} (h : Touch2 q r a b) (k : Touch2 q r b c) : Touch2 q r a c :=
  ⟨k.os.trans h.os, k.tape.trans h.tape, k.output.trans h.output, Nat.le_trans h.size k.size, fun i hi hq hr => (k.block i (Nat.lt_of_lt_of_le hi h.size) hq hr).trans (h.block i hi hq hr)⟩
theorem Touch.two {q : Nat} (r : Nat) {w w' : World} (h : Touch q w w') : Touch2 q r w w' := ⟨h.os, h.tape, h.output, h.size, fun k hk hq _ => h.block k hk hq⟩
theorem Touch.two' {r : Nat} (q : Nat) {w w' : World} (h : Touch r w w') : Touch2 q r w w' := ⟨h.os, h.tape, h.output, h.size, fun k hk _ hr => h.block k hk hr⟩
theorem Touch2.drew {q r : Nat} {a w : World} (h : Touch2 q r a w) : Touch2 q r a w.drew := ⟨h.os, h.tape, h.output, h.size, h.block⟩
theorem Touch2.below {q r : Nat} {w w' : World} (h : Touch2 q r w w') {B : Nat} (hB : B ≤ q) (hB2 : B ≤ r) (hB3 : B ≤ w.heap.size) : Below B w w' :=
  ⟨h.os, h.tape, h.output, h.size, fun k hk => h.block k (by omega) (by omega) (by omega)⟩
theorem Touch2.cell {q r : Nat} {w w' : World} (h : Touch2 q r w w') {p : Addr} (hp : p.block < w.heap.size) (hq : p.block ≠ q) (hr : p.block ≠ r) : w'.cell? p = w.cell? p := World.cell?_of_block (w := w) (h.block p.block hp hq hr)
theorem Touch2.frozen {q r : Nat} {w w' : World} (h : Touch2 q r w w') {p : Addr} (hp : p.block < w.heap.size) (hq : p.block ≠ q) (hr : p.block ≠ r) : w'.frozen? p = w.frozen? p := World.frozen?_of_block (w := w) (h.block p.block hp hq hr)

theorem heap_last (w : World) (o : Obj) : (w.alloc o).heap[w.heap.size]? = some o := by
  show (w.heap.push o)[w.heap.size]? = some o
  simp
theorem new_cell (w : World) (C : Array Value) (t : TypeId) (j : Nat) (v : Value) (h : C[j]? = some v) : (w.alloc (.cells C t)).cell? ⟨w.heap.size, j, none⟩ = some v := by
  rw [cell_of_row _ _ _ C t (0, 0) (heap_last w _)]; exact h
theorem new_frozen (w : World) (C : Array Value) (t : TypeId) (j : Nat) : (w.alloc (.cells C t)).frozen? ⟨w.heap.size, j, none⟩ = false := by
  unfold World.frozen?
  rw [show (w.alloc (.cells C t)).heap[(⟨w.heap.size, j, none⟩ : Addr).block]? = _ from heap_last w _]
  simp

/-- Arguments read again. -/
theorem trodAll_stays {H : Type} {enc : TypeId × Value → H} {P : Program} (hl : laidOutB P = true) {W W' : World} (hb : Below W.heap.size W W') : ∀ (ts : List TypeId) (vs : List Value) (ds : List (DataW H)) (ps : List MemPlace),
    (ts.all fun t => P.readableRec t && decide (t < P.types.size)) = true → DataW.TrodAll enc P W 0 (fun _ => true) true ts vs ds ps → DataW.TrodAll enc P W' 0 (fun b => decide (b < W.heap.size)) true ts vs ds ps
  | [], vs, ds, ps, _, h => by
    obtain ⟨rfl, rfl, rfl⟩ := trodAll_nil h
    exact trodAll_mk0
  | t :: ts, vs, ds, ps, ht, h => by
    simp only [List.all_cons, Bool.and_eq_true, decide_eq_true_eq] at ht
    obtain ⟨v, vs', d, ds', p, q, rfl, rfl, rfl, h0, hr⟩ := trodAll_cons h
    refine trodAll_cons_mk (Below.trod hl ht.1.1 ht.1.2 h0 hb ?_) (trodAll_stays hl hb ts vs' ds' q (by simpa using ht.2) hr)
    obtain ⟨m, hm⟩ := h0
    exact DataW.trod_lt m _ _ _ hm

/-! ### Slices as they are read -/
abbrev i64 (x : Int) : Value := .int .i64 x
def icells (xs : List Int) : List Value := xs.map i64
theorem icells_len (xs : List Int) : (icells xs).length = xs.length := by simp [icells]
theorem icells_app (xs ys : List Int) : icells (xs ++ ys) = icells xs ++ icells ys := by simp [icells]
theorem icells_one (xs : List Int) : ∀ v ∈ icells xs, v.oneCell' = true := by
  intro v hv
  obtain ⟨x, _, rfl⟩ := List.mem_map.1 hv
  rfl
theorem own_form {w : World} {base : Nat} {e : TypeId} {size : Nat} {v : Value} {n : Nat} {xs : List Value} (h : w.ownsRow base e size v (n + 1) xs) : ∃ g cap, v = .slice (some ⟨g, 0, none⟩) (n + 1) cap := by
  rcases h.2 with ⟨_, h0⟩ | ⟨g, cap, cur, rfl, _⟩
  · omega
  · exact ⟨g, cap, rfl⟩
/-- Whatever is owned is a slice of that length. -/
theorem own_slice {w : World} {base : Nat} {e : TypeId} {size : Nat} {v : Value} {n : Nat} {xs : List Value} (h : w.ownsRow base e size v n xs) : ∃ ao cap, v = .slice ao n cap ∧ ∀ g, ao = some g → base ≤ g.block := by
  rcases h.2 with ⟨rfl, rfl⟩ | ⟨g, cap, cur, rfl, hb, _⟩
  · exact ⟨none, 0, rfl, fun g h => by cases h⟩
  · exact ⟨_, cap, rfl, fun g h => by cases h; exact hb⟩

/-! ### Keys and entries -/
structure K3 where
  env : Int
  proc : Int
  page : Int
deriving DecidableEq
structure En where
  frame : Int
  wr : Bool
deriving DecidableEq
abbrev keyV (k : K3) : Value := .agg #[i64 k.env, i64 k.proc, i64 k.page]
abbrev entV (e : En) : Value := .agg #[i64 e.frame, .bool e.wr]
def zeroE : En := ⟨0, false⟩
theorem keyV_inj {a b : K3} (h : keyV a = keyV b) : a = b := by
  cases a; cases b
  simp at h
  simp [h]
theorem entV_inj {a b : En} (h : entV a = entV b) : a = b := by
  cases a; cases b
  simp at h
  simp [h]

theorem chk (em : Bool) (k : K3) (w : World) : (Instr.checkKey em 10000 31 (keyV k)).run Try.prog w = .ok () w := by kernel_rfl
theorem eqInt (d : Nat) (x y : Int) (w : World) : (Op.equalIn (d + 1) 3 (i64 x) (i64 y)).run Try.prog w = .ok (x == y) w := run_equalIn_int w d 3 .i64 .i64 x y Try.underlying3
theorem eql (a b : K3) (w : World) : (Op.equal 31 (keyV a) (keyV b)).run Try.prog w = .ok (decide (a = b)) w := by
  unfold Op.equal Op.maxDepth
  rw [run_equalIn_struct w 9999 31 _ _ (by kernel_rfl) (by kernel_rfl)]
  have p0 : ∀ (x y z : Int) (w : World), (part 3 #[i64 x, i64 y, i64 z] 0).run Try.prog w = .ok (i64 x) w := fun x y z w => by kernel_rfl
  have p1 : ∀ (x y z : Int) (w : World), (part 3 #[i64 x, i64 y, i64 z] 1).run Try.prog w = .ok (i64 y) w := fun x y z w => by kernel_rfl
  have p2 : ∀ (x y z : Int) (w : World), (part 3 #[i64 x, i64 y, i64 z] 2).run Try.prog w = .ok (i64 z) w := fun x y z w => by kernel_rfl
  have hq := eqInt 9998
  rcases a with ⟨a1, a2, a3⟩
  rcases b with ⟨b1, b2, b3⟩
  simp only [Program.fieldsOf, Try.underlying31]
  by_cases h1 : a1 = b1 <;> by_cases h2 : a2 = b2 <;> by_cases h3 : a3 = b3 <;> simp [Op.eqFields, p0, p1, p2, hq, h1, h2, h3, Result.andThen]
theorem zero33 (w : World) : (zeroValue 33).run Try.prog w = .ok (entV zeroE) w := by kernel_rfl
theorem stays (k : K3) (w : World) : (Instr.keyThatStays (keyV k) (keyV k)).run Try.prog w = .ok (keyV k) w := by
  unfold Instr.keyThatStays
  have : Instr.sameBits 10000 (keyV k) (keyV k) = true := by simp [Instr.sameBits]
  rw [this]
  rfl
end Go.Proofs.Ytblhoaggonjhkaa
