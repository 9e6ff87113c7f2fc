/- Texts Base Ord Pure Pure2 App Lg Cnt in one; no statement is proved in this text. -/
import Derived.Test.YtjppcfjjpkniaaaGreatDoorRows
import Derived.WalkKit
import Derived.ProofKit
import Derived.OpenShut
import Derived.RegionTactic
import Derived.ChangeAlike
import Derived.ChangeOld
import Derived.ShutString
import Derived.Carry
import Derived.Deep.Slices
import Derived.Deep.Fields
import Derived.Deep.RegionWith
import Derived.Deep.MidRow
import Derived.Deep.RegionHeld
import Derived.Deep.QuietTactic
import Derived.BigQuiet
import Derived.Laws.IdiomStrings
import Derived.Laws.OwnMore
import Derived.Lib.LazyBuf
import Derived.Deep.RegionHeld3
import Derived.Deep.AppendLies
import Derived.Deep.DrawnRows
import Derived.Deep.DeepCutAuto
import Derived.OrdersHeld
import Derived.Lib.ItoaNum
namespace Go.Proofs.YtjppcfjjpkniaaaGreatDoor
open Go.ChangeShapes Go.WideShapes Go.ChangeAt Go.RowKit Go.Deep

theorem own : ownKnob Tryz.prog.godebug = none := by kernel_rfl
theorem laidOut : laidOutB Tryz.prog = true := by kernel_rfl

/-- What may have turned of a world: block q, and what is new. -/
structure Touch (q : Nat) (w w' : World) : Prop where
  os : w'.os = w.os
  tape : w'.tape = w.tape
  output : w'.output = w.output
  size : w.heap.size ≤ w'.heap.size
  block : ∀ k, k < w.heap.size → k ≠ q → w'.heap[k]? = w.heap[k]?

theorem Touch.refl (q : Nat) (w : World) : Touch q w w := ⟨rfl, rfl, rfl, Nat.le_refl _, fun _ _ _ => rfl⟩
theorem Touch.trans {q : Nat} {a b c : World} (h : Touch q a b) (k : Touch q b c) : Touch q a c :=
  ⟨k.os.trans h.os, k.tape.trans h.tape, k.output.trans h.output, Nat.le_trans h.size k.size, fun i hi hq => (k.block i (Nat.lt_of_lt_of_le hi h.size) hq).trans (h.block i hi hq)⟩
theorem Touch.drew {q : Nat} {a w : World} (h : Touch q a w) : Touch q a w.drew := ⟨h.os, h.tape, h.output, h.size, h.block⟩
theorem Touch.alloc {q : Nat} {a w : World} (h : Touch q a w) (o : Obj) : Touch q a (w.alloc o) :=
  h.trans ⟨rfl, rfl, rfl, by simp, fun k hk _ => Below.heap_alloc _ _ _ hk⟩
theorem Touch.setCell {q : Nat} {a w : World} (h : Touch q a w) {p : Addr} (hp : p.block = q) (u : Value) : Touch q a (w.setCell p u) :=
  h.trans ⟨rfl, rfl, rfl, by simp [World.setCell], fun k _ hq => Below.heap_setCell _ _ _ _ (by omega)⟩
theorem Touch.setNew {q : Nat} {a w : World} (h : Touch q a w) {p : Addr} (hp : a.heap.size ≤ p.block) (u : Value) : Touch q a (w.setCell p u) :=
  ⟨h.os, h.tape, h.output, by have := h.size; simpa [World.setCell] using this, fun k hk hq => by rw [Below.heap_setCell _ _ _ _ (by omega)]; exact h.block k hk hq⟩
theorem Touch.setCells {q : Nat} {a : World} : ∀ (vs : List Value) (o : Nat) (w : World), Touch q a w → Touch q a (w.setCells q o vs)
  | [], _, _, h => h
  | v :: r, o, _, h => Touch.setCells r (o + 1) _ (h.setCell rfl v)
theorem Touch.cell {q : Nat} {w w' : World} (h : Touch q w w') {p : Addr} (hp : p.block < w.heap.size) (hq : p.block ≠ q) : w'.cell? p = w.cell? p := World.cell?_of_block (w := w) (h.block p.block hp hq)
theorem Touch.frozen {q : Nat} {w w' : World} (h : Touch q w w') {p : Addr} (hp : p.block < w.heap.size) (hq : p.block ≠ q) : w'.frozen? p = w.frozen? p := World.frozen?_of_block (w := w) (h.block p.block hp hq)
theorem Touch.below {q : Nat} {w w' : World} (h : Touch q w w') {B : Nat} (hB : B ≤ q) (hB2 : B ≤ w.heap.size) : Below B w w' :=
  ⟨h.os, h.tape, h.output, h.size, fun k hk => h.block k (by omega) (by omega)⟩

theorem Touch.of_drewN {q n : Nat} {w w' : World} (h : Touch q (w.drewN n) w') : Touch q w w' := ⟨h.os, h.tape, h.output, h.size, h.block⟩
theorem Touch.drewN {q : Nat} {w w' : World} (h : Touch q w w') (n : Nat) : Touch q w (w'.drewN n) := ⟨h.os, h.tape, h.output, h.size, h.block⟩
theorem below_of_drewN {B n : Nat} {w w' : World} (h : Below B (w.drewN n) w') : Below B w w' := ⟨h.os, h.tape, h.output, h.size, h.block⟩
theorem below_drewN {B : Nat} {w w' : World} (h : Below B w w') (n : Nat) : Below B w (w'.drewN n) := ⟨h.os, h.tape, h.output, h.size, h.block⟩

/-- What may have turned: two blocks, and what is new. -/
structure Touch2 (q r : Nat) (w w' : World) : Prop where
  os : w'.os = w.os
  tape : w'.tape = w.tape
  output : w'.output = w.output
  size : w.heap.size ≤ w'.heap.size
  block : ∀ k, k < w.heap.size → k ≠ q → k ≠ r → w'.heap[k]? = w.heap[k]?
theorem Touch2.refl (q r : Nat) (w : World) : Touch2 q r w w := ⟨rfl, rfl, rfl, Nat.le_refl _, fun _ _ _ _ => rfl⟩
theorem Touch2.trans {q r : Nat} {a b c : World} (h : Touch2 q r a b) (k : Touch2 q r b c) : Touch2 q r a c :=
  ⟨k.os.trans h.os, k.tape.trans h.tape, k.output.trans h.output, Nat.le_trans h.size k.size, fun i hi hq hr => (k.block i (Nat.lt_of_lt_of_le hi h.size) hq hr).trans (h.block i hi hq hr)⟩
theorem Touch.two {q : Nat} (r : Nat) {w w' : World} (h : Touch q w w') : Touch2 q r w w' := ⟨h.os, h.tape, h.output, h.size, fun k hk hq _ => h.block k hk hq⟩
theorem Touch.two' {r : Nat} (q : Nat) {w w' : World} (h : Touch r w w') : Touch2 q r w w' := ⟨h.os, h.tape, h.output, h.size, fun k hk _ hr => h.block k hk hr⟩
theorem Touch2.drew {q r : Nat} {a w : World} (h : Touch2 q r a w) : Touch2 q r a w.drew := ⟨h.os, h.tape, h.output, h.size, h.block⟩
theorem Touch2.below {q r : Nat} {w w' : World} (h : Touch2 q r w w') {B : Nat} (hB : B ≤ q) (hB2 : B ≤ r) (hB3 : B ≤ w.heap.size) : Below B w w' :=
  ⟨h.os, h.tape, h.output, h.size, fun k hk => h.block k (by omega) (by omega) (by omega)⟩
theorem Touch2.cell {q r : Nat} {w w' : World} (h : Touch2 q r w w') {p : Addr} (hp : p.block < w.heap.size) (hq : p.block ≠ q) (hr : p.block ≠ r) : w'.cell? p = w.cell? p := World.cell?_of_block (w := w) (h.block p.block hp hq hr)
theorem Touch2.frozen {q r : Nat} {w w' : World} (h : Touch2 q r w w') {p : Addr} (hp : p.block < w.heap.size) (hq : p.block ≠ q) (hr : p.block ≠ r) : w'.frozen? p = w.frozen? p := World.frozen?_of_block (w := w) (h.block p.block hp hq hr)

theorem heap_last (w : World) (o : Obj) : (w.alloc o).heap[w.heap.size]? = some o := by
  show (w.heap.push o)[w.heap.size]? = some o
  simp
theorem new_cell (w : World) (C : Array Value) (t : TypeId) (j : Nat) (v : Value) (h : C[j]? = some v) : (w.alloc (.cells C t)).cell? ⟨w.heap.size, j, none⟩ = some v := by
  rw [cell_of_row _ _ _ C t (0, 0) (heap_last w _)]; exact h
theorem new_frozen (w : World) (C : Array Value) (t : TypeId) (j : Nat) : (w.alloc (.cells C t)).frozen? ⟨w.heap.size, j, none⟩ = false := by
  unfold World.frozen?
  rw [show (w.alloc (.cells C t)).heap[(⟨w.heap.size, j, none⟩ : Addr).block]? = _ from heap_last w _]
  simp

/-- Arguments read again. -/
theorem trodAll_stays {H : Type} {enc : TypeId × Value → H} {P : Program} (hl : laidOutB P = true) {W W' : World} (hb : Below W.heap.size W W') : ∀ (ts : List TypeId) (vs : List Value) (ds : List (DataW H)) (ps : List MemPlace),
    (ts.all fun t => P.readableRec t && decide (t < P.types.size)) = true → DataW.TrodAll enc P W 0 (fun _ => true) true ts vs ds ps → DataW.TrodAll enc P W' 0 (fun b => decide (b < W.heap.size)) true ts vs ds ps
  | [], vs, ds, ps, _, h => by
    obtain ⟨rfl, rfl, rfl⟩ := trodAll_nil h
    exact trodAll_mk0
  | t :: ts, vs, ds, ps, ht, h => by
    simp only [List.all_cons, Bool.and_eq_true, decide_eq_true_eq] at ht
    obtain ⟨v, vs', d, ds', p, q, rfl, rfl, rfl, h0, hr⟩ := trodAll_cons h
    refine trodAll_cons_mk (Below.trod hl ht.1.1 ht.1.2 h0 hb ?_) (trodAll_stays hl hb ts vs' ds' q (by simpa using ht.2) hr)
    obtain ⟨m, hm⟩ := h0
    exact DataW.trod_lt m _ _ _ hm

/-! ### Slices as they are read -/
abbrev i64 (x : Int) : Value := .int .i64 x
def icells (xs : List Int) : List Value := xs.map i64
theorem icells_len (xs : List Int) : (icells xs).length = xs.length := by simp [icells]
theorem icells_app (xs ys : List Int) : icells (xs ++ ys) = icells xs ++ icells ys := by simp [icells]
theorem icells_one (xs : List Int) : ∀ v ∈ icells xs, v.oneCell' = true := by
  intro v hv
  obtain ⟨x, _, rfl⟩ := List.mem_map.1 hv
  rfl
/-- A slice of ints that reads as xs. -/
def ISl (w : World) (ao : Option Addr) (xs : List Int) : Prop :=
  xs = [] ∨ ∃ b off, ao = some ⟨b, off, none⟩ ∧ b < w.heap.size ∧ ∀ i x, xs[i]? = some x → w.cell? ⟨b, off + i, none⟩ = some (i64 x)
theorem ISl.below {w w' : World} {ao : Option Addr} {xs : List Int} (h : ISl w ao xs) (hb : Below w.heap.size w w') : ISl w' ao xs := by
  rcases h with h | ⟨b, off, rfl, hlt, hc⟩
  · exact Or.inl h
  · exact Or.inr ⟨b, off, rfl, Nat.lt_of_lt_of_le hlt hb.size, fun i x hx => by rw [hb.cell (by exact hlt)]; exact hc i x hx⟩
theorem ISl.at {w : World} {ao : Option Addr} {xs : List Int} (h : ISl w ao xs) {k : Nat} (hk : k < xs.length) : ∃ b off, ao = some ⟨b, off, none⟩ ∧ b < w.heap.size ∧ w.cell? ⟨b, off + k, none⟩ = some (i64 xs[k]) := by
  rcases h with rfl | ⟨b, off, rfl, hlt, hc⟩
  · simp at hk
  · exact ⟨b, off, rfl, hlt, hc k _ (List.getElem?_eq_getElem hk)⟩
theorem own_form {w : World} {base : Nat} {e : TypeId} {size : Nat} {v : Value} {n : Nat} {xs : List Value} (h : w.ownsRow base e size v (n + 1) xs) : ∃ g cap, v = .slice (some ⟨g, 0, none⟩) (n + 1) cap := by
  rcases h.2 with ⟨_, h0⟩ | ⟨g, cap, cur, rfl, _⟩
  · omega
  · exact ⟨g, cap, rfl⟩
/-- Whatever is owned is a slice of that length. -/
theorem own_slice {w : World} {base : Nat} {e : TypeId} {size : Nat} {v : Value} {n : Nat} {xs : List Value} (h : w.ownsRow base e size v n xs) : ∃ ao cap, v = .slice ao n cap ∧ ∀ g, ao = some g → base ≤ g.block := by
  rcases h.2 with ⟨rfl, rfl⟩ | ⟨g, cap, cur, rfl, hb, _⟩
  · exact ⟨none, 0, rfl, fun g h => by cases h⟩
  · exact ⟨_, cap, rfl, fun g h => by cases h; exact hb⟩
theorem own_ints {w : World} {base : Nat} {e : TypeId} {ao : Option Addr} {n cap : Nat} {xs : List Int} (h : w.ownsRow base e 1 (.slice ao n cap) n (icells xs)) : ISl w ao xs ∧ xs.length = n := by
  have hl : xs.length = n := by have := h.1; rw [icells_len] at this; omega
  refine ⟨?_, hl⟩
  rcases h.2 with ⟨_, rfl⟩ | ⟨g, cap', cur, hv, hb, hg, _, _, _, htake⟩
  · exact Or.inl (List.eq_nil_of_length_eq_zero hl)
  · cases hv
    refine Or.inr ⟨g, 0, rfl, (Array.getElem?_eq_some_iff.1 hg).1, fun i x hx => ?_⟩
    have hi : i < n := by have := (List.getElem?_eq_some_iff.1 hx).1; omega
    rw [h.cellAt (0 + i) (by omega), Nat.zero_add]
    simp [icells, hx]

/-! ### Frames by the blocks' types -/
def keeps (ts : List TypeId) : Obj → Bool
  | .cells _ t _ => !ts.contains t
  | _ => true
/-- What may have turned: blocks of given types from base on, and what is new. -/
structure Fr (base : Nat) (ts : List TypeId) (w w' : World) : Prop where
  below : Below base w w'
  kept : ∀ (k : Nat) (o : Obj), w.heap[k]? = some o → keeps ts o = true → w'.heap[k]? = some o
theorem Fr.refl (base : Nat) (ts : List TypeId) (w : World) : Fr base ts w w := ⟨Below.refl _ _, fun _ _ h _ => h⟩
theorem Fr.trans {base : Nat} {ts : List TypeId} {a b c : World} (h : Fr base ts a b) (k : Fr base ts b c) : Fr base ts a c :=
  ⟨h.below.trans k.below, fun i o hi ho => k.kept i o (h.kept i o hi ho) ho⟩
theorem Fr.size {base : Nat} {ts : List TypeId} {a b : World} (h : Fr base ts a b) : a.heap.size ≤ b.heap.size := h.below.size
theorem Fr.of_below {base : Nat} (ts : List TypeId) {w w' : World} (h : Below w.heap.size w w') (hb : base ≤ w.heap.size) : Fr base ts w w' :=
  ⟨h.mono hb, fun k _o hk _ => (h.block k (Array.getElem?_eq_some_iff.1 hk).1).trans hk⟩
theorem Fr.of_touch {base q : Nat} {ts : List TypeId} {w w' : World} {o : Obj} (h : Touch q w w') (hq : w.heap[q]? = some o) (ho : keeps ts o = false) (hb : base ≤ q) : Fr base ts w w' := by
  have hl := (Array.getElem?_eq_some_iff.1 hq).1
  refine ⟨h.below hb (by omega), fun k o' hk ho' => ?_⟩
  have hne : k ≠ q := fun e => by subst e; rw [hq] at hk; cases hk; rw [ho] at ho'; cases ho'
  exact (h.block k (Array.getElem?_eq_some_iff.1 hk).1 hne).trans hk
theorem Fr.lower {base base' : Nat} {ts : List TypeId} {w w' : World} (h : Fr base ts w w') (hb : base' ≤ base) : Fr base' ts w w' := ⟨h.below.mono hb, h.kept⟩
theorem Fr.drewN {base : Nat} {ts : List TypeId} {w w' : World} (h : Fr base ts w w') (n : Nat) : Fr base ts w (w'.drewN n) := ⟨below_drewN h.below n, h.kept⟩
theorem Fr.of_drewN {base n : Nat} {ts : List TypeId} {w w' : World} (h : Fr base ts (w.drewN n) w') : Fr base ts w w' := ⟨below_of_drewN h.below, h.kept⟩
theorem Fr.alloc {base : Nat} {ts : List TypeId} {w w' : World} (h : Fr base ts w w') (hb : base ≤ w'.heap.size) (o : Obj) : Fr base ts w (w'.alloc o) :=
  h.trans (Fr.of_below ts ((Below.refl _ _).alloc (Nat.le_refl _) o) hb)
theorem Fr.mono {base : Nat} {ts ts' : List TypeId} {w w' : World} (h : Fr base ts w w') (hs : ∀ o, keeps ts' o = true → keeps ts o = true) : Fr base ts' w w' := ⟨h.below, fun k o hk ho => h.kept k o hk (hs o ho)⟩
theorem blk_lt {w : World} {b : Nat} {o : Obj} (h : w.heap[b]? = some o) : b < w.heap.size := (Array.getElem?_eq_some_iff.1 h).1
theorem blk_cell {w : World} {b : Nat} {C : Array Value} {t : TypeId} (h : w.heap[b]? = some (.cells C t)) (j : Nat) : w.cell? ⟨b, j, none⟩ = C[j]? := cell_of_row w b j C t (0, 0) h
theorem blk_frozen {w : World} {b : Nat} {C : Array Value} {t : TypeId} (h : w.heap[b]? = some (.cells C t)) (j : Nat) : w.frozen? ⟨b, j, none⟩ = false := frozen_of_row w b j C t h
theorem blk_alloc {w : World} {b : Nat} {o : Obj} (h : w.heap[b]? = some o) (x : Obj) : (w.alloc x).heap[b]? = some o := by rw [Below.heap_alloc _ _ _ (blk_lt h)]; exact h
theorem blk_below {w w' : World} {b : Nat} {o : Obj} (h : w.heap[b]? = some o) (hb : Below w.heap.size w w') : w'.heap[b]? = some o := by rw [hb.block b (blk_lt h)]; exact h
end Go.Proofs.YtjppcfjjpkniaaaGreatDoor
namespace Go.Proofs.YtjppcfjjpkniaaaGreatDoor

section
variable {P : Program} {ops : Array Oper} {Q : Exit → Act → World → Prop} {md : Region.Mode} {S : World → Prop} {z : Nat}

/-- Each number of the list is waited for by the next one. -/
def anc (md : Region.Mode) (ops : Array Oper) : List Nat → Bool
  | [] => true
  | [_] => true
  | i :: j :: r => (match ops[j]? with | some o => o.after.any (fun e => Region.binds md e && e.on == i) | none => false) && anc md ops (j :: r)
/-- What has come up came up behind what it waits for. -/
def Closed (md : Region.Mode) (ops : Array Oper) (listed : Array Bool) : Prop :=
  ∀ j o, ops[j]? = some o → listed.getD j false = true → ∀ e ∈ o.after, Region.binds md e = true → listed.getD e.on false = true
theorem Closed.step {listed : Array Bool} (h : Closed md ops listed) {j : Nat} (hj : j ∈ Region.ready md ops listed) : Closed md ops (listed.setIfInBounds j true) := by
  intro k o hk hl e he hb
  obtain ⟨_, oj, hoj, hall⟩ := mem_ready.1 hj
  by_cases hkj : j = k
  · subst hkj
    rw [hk] at hoj
    cases hoj
    exact getD_set_true (hall e he hb)
  · rw [getD_set_ne false hkj] at hl
    exact getD_set_true (h k o hk hl e he hb)
theorem anc_edge {i j : Nat} {r : List Nat} (h : anc md ops (i :: j :: r) = true) : (∃ o, ops[j]? = some o ∧ ∃ e ∈ o.after, Region.binds md e = true ∧ e.on = i) ∧ anc md ops (j :: r) = true := by
  unfold anc at h
  rw [Bool.and_eq_true] at h
  refine ⟨?_, h.2⟩
  cases ho : ops[j]? with
  | none => rw [ho] at h; cases h.1
  | some o =>
    rw [ho] at h
    obtain ⟨e, he, hb⟩ := Array.any_eq_true'.1 h.1
    rw [Bool.and_eq_true, beq_iff_eq] at hb
    exact ⟨o, rfl, e, he, hb.1, hb.2⟩
theorem anc_listed {listed : Array Bool} (hc : Closed md ops listed) {oz : Oper} (hoz : ops[z]? = some oz) (hall : ∀ e ∈ oz.after, Region.binds md e = true → listed.getD e.on false = true) :
    ∀ (p : List Nat) (i : Nat), anc md ops (i :: (p ++ [z])) = true → listed.getD i false = true
  | [], i, h => by
    obtain ⟨⟨o, ho, e, he, hb, rfl⟩, _⟩ := anc_edge h
    rw [hoz] at ho
    cases ho
    exact hall e he hb
  | j :: p, i, h => by
    obtain ⟨⟨o, ho, e, he, hb, rfl⟩, h2⟩ := anc_edge (r := p ++ [z]) h
    exact hc j o ho (anc_listed hc hoz hall p j h2) e he hb
theorem anc_last {i : Nat} {p : List Nat} (h : anc md ops (i :: (p ++ [z])) = true) {listed : Array Bool} (hc : Closed md ops listed) (hun : listed.getD i true = false) : z ∉ Region.ready md ops listed := fun hz => by
  obtain ⟨_, oz, hoz, hall⟩ := mem_ready.1 hz
  have := anc_listed hc hoz hall p i h
  rcases Nat.lt_or_ge i listed.size with h' | h'
  · simp [h'] at hun this; rw [hun] at this; cases this
  · simp [Array.getElem?_eq_none h'] at this

/-- Whatever order is picked from here on, and S holds behind every operation that is carried out, but for number z. -/
def wpAnyL (P : Program) (md : Region.Mode) (ops : Array Oper) (Q : Exit → Act → World → Prop) (S : World → Prop) (z : Nat) : Nat → Array Bool → Act → World → Prop
  | 0, listed, a, w => Region.ready md ops listed = [] ∧ Q .normal a w
  | fuel + 1, listed, a, w =>
    (Region.ready md ops listed = [] → Q .normal a w) ∧
    ∀ i ∈ Region.ready md ops listed, wpOp P ops Q i (fun a' w' => (i ≠ z → S w') ∧ wpAnyL P md ops Q S z fuel (listed.setIfInBounds i true) a' w') a w
theorem wpAny_of_last : ∀ (fuel : Nat) (listed : Array Bool) (a : Act) (w : World), wpAnyL P md ops Q S z fuel listed a w → wpAny P md ops Q fuel listed a w
  | 0, _, _, _, h => h
  | fuel + 1, _, _, _, h => ⟨h.1, fun i hi => wpOp_mono (fun a' w' h' => wpAny_of_last fuel _ a' w' h'.2) (h.2 i hi)⟩
theorem wpAnyL_first {i : Nat} {oi : Oper} {v : Value} {p : List Nat} (hp : anc md ops (i :: (p ++ [z])) = true) (hiz : i ≠ z) (hi : ops[i]? = some oi) (hsel : ∀ (j : Nat) (o : Oper) cs b, ops[j]? = some o → o.op ≠ .select cs b)
    (hQ : ∀ c a w, Q (.panic c) (a.put oi.dst v) w → Q (.panic c) a w) :
    ∀ (fuel : Nat) (listed : Array Bool) (a : Act) (w : World), Closed md ops listed →
      (∀ j oj, ops[j]? = some oj → j ≠ i → listed.getD j true = false → (∀ e ∈ oj.after, Region.binds md e = true → e.on ≠ i) → oi.apart ops oj = true) →
      i ∈ Region.ready md ops listed → YieldsIf P ops S oi v a → S w →
      wpAnyL P md ops Q S z fuel (listed.setIfInBounds i true) (a.put oi.dst v) w → wpAnyL P md ops Q S z (fuel + 1) listed a w := by
  intro fuel
  induction fuel with
  | zero =>
    intro listed a w _ _ hr hy hS H
    refine ⟨fun h => (by rw [h] at hr; cases hr), fun j hj => ?_⟩
    by_cases hji : j = i
    · subst hji; exact hy.wpOp hi hS ⟨fun _ => hS, H⟩
    · have := ready_mono hj hji
      rw [H.1] at this
      cases this
  | succ fuel ih =>
    intro listed a w hc hfree hr hy hS H
    refine ⟨fun h => (by rw [h] at hr; cases hr), fun j hj => ?_⟩
    by_cases hji : j = i
    · subst hji; exact hy.wpOp hi hS ⟨fun _ => hS, H⟩
    · have h1 := H.2 j (ready_mono hj hji)
      have hjz : j ≠ z := fun h => anc_last hp hc (mem_ready.1 hr).1 (h ▸ hj)
      obtain ⟨hjun, oj, hoj, hall⟩ := mem_ready.1 hj
      have hnot : ∀ e ∈ oj.after, Region.binds md e = true → e.on ≠ i := fun e he hb heq => by
        have h1 := hall e he hb
        have h0 := (mem_ready.1 hr).1
        rw [heq] at h1
        rcases Nat.lt_or_ge i listed.size with h' | h'
        · simp [h'] at h0 h1; rw [h0] at h1; cases h1
        · simp [Array.getElem?_eq_none h'] at h1
      have h2 := wpOp_putIf hoj (hfree j oj hoj hji hjun hnot) (fun cs b => hsel i oi cs b hi) (fun cs b => hsel j oj cs b hoj) hQ hy h1
      have hfree' : ∀ k ok, ops[k]? = some ok → k ≠ i → (listed.setIfInBounds j true).getD k true = false →
          (∀ e ∈ ok.after, Region.binds md e = true → e.on ≠ i) → oi.apart ops ok = true := fun k ok hk hki hun hno => by
        refine hfree k ok hk hki ?_ hno
        by_cases hjk : j = k
        · subst hjk; exact hjun
        · rw [getD_set_ne true hjk] at hun; exact hun
      refine wpOp_mono (fun a' w' h3 => ⟨h3.2.1, ih (listed.setIfInBounds j true) a' w' (hc.step hj) hfree' (ready_mono hr (Ne.symm hji)) h3.1 (h3.2.1 hjz) ?_⟩) h2
      rw [Array.setIfInBounds_comm _ _ hji]
      exact h3.2.2

/-- .. in an order that is closed. -/
def wpL (P : Program) (md : Region.Mode) (ops : Array Oper) (Q : Exit → Act → World → Prop) (S : World → Prop) (z fuel : Nat) (listed : Array Bool) (a : Act) (w : World) : Prop :=
  Closed md ops listed → wpAnyL P md ops Q S z fuel listed a w
theorem wpL_take (i d : Nat) (v : Value) (p : List Nat) {oi : Oper} {fuel : Nat} {listed : Array Bool} {a : Act} {w : World} (hi : ops[i]? = some oi) (hd : oi.dst = some d) (hp : anc md ops (i :: (p ++ [z])) = true) (hiz : i ≠ z)
    (hs : Region.noSelect ops = true) (hf : Region.free md ops listed i = true) (hr : (Region.ready md ops listed).contains i = true)
    (hQ : ∀ c a w, Q (.panic c) (a.put (some d) v) w → Q (.panic c) a w) (hS : S w) (hw : Region.wanted oi (yielded ops a.tmps) = true) (hy : ∀ w, S w → (execOp a.eval oi).run P w = .ok (.value v) w)
    (h : wpL P md ops Q S z fuel (listed.setIfInBounds i true) (a.put (some d) v) w) : wpL P md ops Q S z (fuel + 1) listed a w := fun hc =>
  have hr' : i ∈ Region.ready md ops listed := by simpa using hr
  wpAnyL_first hp hiz hi (Region.noSelect_spec hs) (by rw [hd]; exact hQ) fuel listed a w hc (Region.free_spec hi hf) hr' (Or.inl ⟨hw, hy⟩) hS (by rw [hd]; exact h (hc.step hr'))
theorem wpL_one (i : Nat) {o : Oper} {fuel : Nat} {listed : Array Bool} {a : Act} {w : World} (ho : ops[i]? = some o) (hr : Region.ready md ops listed = [i]) (hw : Region.wanted o (yielded ops a.tmps) = true)
    (h : ∀ K' : Act → World → Prop, Shut (∀ a w, (i ≠ z → S w) → wpL P md ops Q S z fuel (listed.setIfInBounds i true) a w → K' a w) → Oper.wp P o a w K' Q) : wpL P md ops Q S z (fuel + 1) listed a w := fun hc =>
  ⟨fun h0 => (by rw [hr] at h0; cases h0), fun j hj => by
    rw [hr] at hj
    obtain rfl := List.mem_singleton.1 hj
    refine wpOp_step ho fun K' hK => ?_
    rw [if_pos hw]
    exact h K' (fun a w hS hL => hK a w ⟨hS, hL (hc.step (by rw [hr]; exact List.mem_singleton.2 rfl))⟩)⟩
theorem wpL_done {fuel : Nat} {listed : Array Bool} {a : Act} {w : World} (hr : Region.ready md ops listed = []) (h : Q .normal a w) : wpL P md ops Q S z fuel listed a w := fun _ => by
  cases fuel with
  | zero => exact ⟨hr, h⟩
  | succ n => exact ⟨fun _ => h, fun i hi => by rw [hr] at hi; cases hi⟩
theorem wp_region_last (S : World → Prop) (z : Nat) {id : Nat} {a : Act} {w : World} (hm : P.follows .mixedOrders = true)
    (h : wpL P .any ops Q S z ops.size (Array.replicate ops.size false) a w.drew) : (Code.region id ops true).wp P Q a w :=
  wp_region_any hm (wpAny_of_last (S := S) (z := z) _ _ _ _ (h fun j o _ hl => by
    exfalso
    by_cases hj : j < ops.size
    · simp [hj] at hl
    · simp [hj] at hl))
theorem wpL_two (i j : Nat) {oi oj : Oper} {fuel : Nat} {listed : Array Bool} {a : Act} {w : World} (hi : ops[i]? = some oi) (hj : ops[j]? = some oj) (hr : Region.ready md ops listed = [i, j]) (hwi : Region.wanted oi (yielded ops a.tmps) = true) (hwj : Region.wanted oj (yielded ops a.tmps) = true)
    (h1 : ∀ K' : Act → World → Prop, Shut (∀ a w, (i ≠ z → S w) → wpL P md ops Q S z fuel (listed.setIfInBounds i true) a w → K' a w) → Oper.wp P oi a w K' Q)
    (h2 : ∀ K' : Act → World → Prop, Shut (∀ a w, (j ≠ z → S w) → wpL P md ops Q S z fuel (listed.setIfInBounds j true) a w → K' a w) → Oper.wp P oj a w K' Q) : wpL P md ops Q S z (fuel + 1) listed a w := fun hc =>
  ⟨fun h0 => (by rw [hr] at h0; cases h0), fun k hk => by
    have hk' := hk
    rw [hr] at hk
    rcases List.mem_cons.1 hk with rfl | hk
    · refine wpOp_step hi fun K' hK => ?_
      rw [if_pos hwi]
      exact h1 K' (fun a w hS hL => hK a w ⟨hS, hL (hc.step hk')⟩)
    · obtain rfl := List.mem_singleton.1 hk
      refine wpOp_step hj fun K' hK => ?_
      rw [if_pos hwj]
      exact h2 K' (fun a w hS hL => hK a w ⟨hS, hL (hc.step hk')⟩)⟩
end
theorem exec_load {P : Program} {op : Oper} {a : Act} {w : World} {ad : Addr} {u : Value} (ty : TypeId) (x : Operand) (ho : op.op = .load ty x) (hx : a.eval x = .pointer (some ad)) (h : (loadVar ty ad).run P w = .ok u w) : (execOp a.eval op).run P w = .ok (.value u) w := by
  unfold execOp
  simp only [ho, hx, Instr.loadAt, Instr.sureAddr, Sem.run_bind, Sem.run_pure, Result.andThen_ok, h]
end Go.Proofs.YtjppcfjjpkniaaaGreatDoor
namespace Go.Proofs.YtjppcfjjpkniaaaGreatDoor

abbrev Bs := List UInt8
/-- A type, as a tree. -/
inductive Ty where
  | mk (kind n : Int) (names : List Bs) (kids : List Ty)
def Ty.kind : Ty → Int | .mk k _ _ _ => k
def Ty.num : Ty → Int | .mk _ n _ _ => n
def Ty.names : Ty → List Bs | .mk _ _ l _ => l
def Ty.kids : Ty → List Ty | .mk _ _ _ l => l
mutual
def Ty.count : Ty → Nat | .mk _ _ _ l => 1 + countL l
def countL : List Ty → Nat | [] => 0 | t :: r => t.count + countL r
end
mutual
def Ty.depth : Ty → Nat | .mk _ _ _ l => 1 + depthL l
def depthL : List Ty → Nat | [] => 0 | t :: r => max t.depth (depthL r)
end
def isLow (c : UInt8) : Bool := decide (97 ≤ c.toNat) && decide (c.toNat ≤ 122)
def isDig (c : UInt8) : Bool := decide (48 ≤ c.toNat) && decide (c.toNat ≤ 57)
def nameB (s : Bs) : Bool := s.all isLow && decide (1 ≤ s.length) && decide (s.length ≤ 8)
/-- All names up to a place are names, and unlike ones. -/
def namesTo (l : List Bs) (k : Nat) : Bool := (List.range k).all fun i => nameB (l.getD i []) && !(l.take i).contains (l.getD i [])
def nodeB (k n : Int) (names : List Bs) (kn : Nat) : Bool :=
  if k = 1 then (decide (n = 8) || decide (n = 16) || decide (n = 32)) && decide (names.length = 0) && decide (kn = 0)
  else if k = 2 then decide (0 ≤ n) && decide (n ≤ 255) && decide (names.length = 0) && decide (kn = 0)
  else if k = 3 then decide (0 ≤ n) && decide (n ≤ 96) && decide (names.length = 0) && decide (kn = 1)
  else if k = 4 then decide (n = 0) && decide (1 ≤ kn) && decide (kn ≤ 12) && decide (names.length = kn) && namesTo names names.length
  else false
mutual
def Ty.formed : Ty → Bool | .mk k n names l => nodeB k n names l.length && formedL l
def formedL : List Ty → Bool | [] => true | t :: r => t.formed && formedL r
end
def Ty.right (t : Ty) : Bool := decide (t.depth ≤ 6) && decide (t.count ≤ 100) && t.formed
def Ty.err (t : Ty) : Int := if t.depth ≤ 6 ∧ t.count ≤ 100 then (if t.formed = true then 0 else 4) else 2
theorem right_err (t : Ty) : t.right = true ↔ t.err = 0 := by
  unfold Ty.right Ty.err
  by_cases h : t.depth ≤ 6 ∧ t.count ≤ 100
  · rw [if_pos h]; obtain ⟨h1, h2⟩ := h; cases h3 : t.formed <;> simp [h1, h2]
  · rw [if_neg h]; simp only [Bool.and_eq_true, decide_eq_true_eq]; constructor
    · intro h'; exact absurd h'.1 h
    · intro h'; cases h'
/-- Fields' texts, one behind the other. -/
def fieldT : List Bs → List Bs → Bs
  | a :: [], x :: [] => a ++ 58 :: x
  | a :: b :: r, x :: y :: s => a ++ 58 :: (x ++ 44 :: fieldT (b :: r) (y :: s))
  | _, _ => []
mutual
def Ty.txt : Ty → Bs
  | .mk k n names l => if k = 1 then 105 :: Lib.itoa n else if k = 2 then 116 :: Lib.itoa n
    else if k = 3 then 108 :: (Lib.itoa n ++ 40 :: ((txtL l).headD [] ++ [41])) else 114 :: 40 :: (fieldT names (txtL l) ++ [41])
def txtL : List Ty → List Bs | [] => [] | t :: r => t.txt :: txtL r
end
theorem txtL_len : ∀ l : List Ty, (txtL l).length = l.length
  | [] => rfl
  | _ :: r => by simp [txtL, txtL_len r]
theorem count_pos (t : Ty) : 1 ≤ t.count := by cases t; simp only [Ty.count]; omega
theorem countL_mem : ∀ {l : List Ty} {t : Ty}, t ∈ l → t.count ≤ countL l
  | x :: r, t, h => by
    simp only [countL]
    rcases List.mem_cons.1 h with rfl | h
    · omega
    · have := countL_mem h; omega
theorem depthL_mem : ∀ {l : List Ty} {t : Ty}, t ∈ l → t.depth ≤ depthL l
  | x :: r, t, h => by
    simp only [depthL]
    rcases List.mem_cons.1 h with rfl | h
    · omega
    · have := depthL_mem h; omega
theorem formedL_mem : ∀ {l : List Ty} {t : Ty}, formedL l = true → t ∈ l → t.formed = true
  | x :: r, t, hf, h => by
    simp only [formedL, Bool.and_eq_true] at hf
    rcases List.mem_cons.1 h with rfl | h
    · exact hf.1
    · exact formedL_mem hf.2 h

/-! ### Numbers -/
def valD (d : Bs) : Nat := d.foldl (fun n c => 10 * n + (c.toNat - 48)) 0
/-- So many digits as stand ahead, at most three. -/
def digs3 (s : Bs) : Bs := (s.takeWhile isDig).take 3
def numOk (d : Bs) : Bool := decide (d.length = 1) || (decide (1 < d.length) && !(d.head? == some 48))
/-- The number ahead, as the program takes it. -/
def numP (s : Bs) : Option (Nat × Bs) := if numOk (digs3 s) = true then some (valD (digs3 s), s.drop (digs3 s).length) else none
/-- The number ahead, as the document takes it. -/
def numD (s : Bs) : Option (Nat × Bs) := if numOk (s.takeWhile isDig) = true ∧ (s.takeWhile isDig).length ≤ 3 then some (valD (s.takeWhile isDig), s.drop (s.takeWhile isDig).length) else none
def dec3 (n : Nat) : Bs := if n < 10 then [UInt8.ofNat (48 + n)] else if n < 100 then [UInt8.ofNat (48 + n / 10), UInt8.ofNat (48 + n % 10)] else [UInt8.ofNat (48 + n / 10 / 10), UInt8.ofNat (48 + n / 10 % 10), UInt8.ofNat (48 + n % 10)]
theorem dec3_eq (n : Nat) (h : n < 1000) : Lib.decDigits n = dec3 n := by
  unfold dec3
  by_cases h1 : n < 10
  · rw [if_pos h1, Lib.decDigits, dif_pos h1]
  · rw [if_neg h1]
    by_cases h2 : n < 100
    · rw [if_pos h2, Lib.decDigits, dif_neg h1, Lib.decDigits, dif_pos (by omega)]; rfl
    · rw [if_neg h2, Lib.decDigits, dif_neg h1, Lib.decDigits, dif_neg (by omega), Lib.decDigits, dif_pos (by omega)]; rfl
def itB (n : Nat) : Bool := (dec3 n).all isDig && decide (1 ≤ (dec3 n).length) && decide ((dec3 n).length ≤ 3) && numOk (dec3 n) && decide (valD (dec3 n) = n)
theorem itB_all : ∀ n, n < 256 → itB n = true := by decide +kernel
theorem itoa_dec3 (n : Int) (h0 : 0 ≤ n) (h1 : n ≤ 255) : Lib.itoa n = dec3 n.toNat := by
  unfold Lib.itoa
  rw [if_neg (by omega), dec3_eq _ (by omega)]
structure ItOk (n : Int) : Prop where
  digs : ∀ c ∈ Lib.itoa n, isDig c = true
  pos : 1 ≤ (Lib.itoa n).length
  le : (Lib.itoa n).length ≤ 3
  ok : numOk (Lib.itoa n) = true
  val : valD (Lib.itoa n) = n.toNat
theorem itoa_ok3 (n : Int) (h0 : 0 ≤ n) (h1 : n ≤ 255) : ItOk n := by
  have h := itB_all n.toNat (by omega)
  have e := itoa_dec3 n h0 h1
  unfold itB at h
  rw [← e] at h
  simp only [Bool.and_eq_true, decide_eq_true_eq, List.all_eq_true] at h
  exact ⟨h.1.1.1.1, h.1.1.1.2, h.1.1.2, h.1.2, h.2⟩
theorem u8_back (c : UInt8) {k : Nat} (h : k = c.toNat) : UInt8.ofNat k = c := by subst h; simp
theorem dec3_val (d : Bs) (hd : ∀ c ∈ d, isDig c = true) (hl : d.length ≤ 3) (hk : numOk d = true) : dec3 (valD d) = d ∧ valD d < 1000 := by
  match d, hd, hl, hk with
  | [], _, _, hk => simp [numOk] at hk
  | [a], hd, _, _ =>
    have ha := hd a (by simp)
    simp only [isDig, Bool.and_eq_true, decide_eq_true_eq] at ha
    have hv : valD [a] = a.toNat - 48 := by simp [valD]
    rw [hv]
    unfold dec3
    rw [if_pos (by omega), u8_back a (by omega)]
    exact ⟨rfl, by omega⟩
  | [a, b], hd, _, hk =>
    have ha := hd a (by simp)
    have hb := hd b (by simp)
    simp only [isDig, Bool.and_eq_true, decide_eq_true_eq] at ha hb
    have h0 : a.toNat ≠ 48 := by
      intro e
      have : a = 48 := UInt8.toNat_inj.1 e
      subst this
      simp [numOk] at hk
    have hv : valD [a, b] = 10 * (a.toNat - 48) + (b.toNat - 48) := by simp [valD]
    rw [hv]
    unfold dec3
    rw [if_neg (by omega), if_pos (by omega), u8_back a (by omega), u8_back b (by omega)]
    exact ⟨rfl, by omega⟩
  | [a, b, c], hd, _, hk =>
    have ha := hd a (by simp)
    have hb := hd b (by simp)
    have hc := hd c (by simp)
    simp only [isDig, Bool.and_eq_true, decide_eq_true_eq] at ha hb hc
    have h0 : a.toNat ≠ 48 := by
      intro e
      have : a = 48 := UInt8.toNat_inj.1 e
      subst this
      simp [numOk] at hk
    have hv : valD [a, b, c] = 10 * (10 * (a.toNat - 48) + (b.toNat - 48)) + (c.toNat - 48) := by simp [valD]
    rw [hv]
    unfold dec3
    rw [if_neg (by omega), if_neg (by omega), u8_back a (by omega), u8_back b (by omega), u8_back c (by omega)]
    exact ⟨rfl, by omega⟩
  | _ :: _ :: _ :: _ :: _, _, hl, _ => simp at hl
theorem itoa_val (d : Bs) (hd : ∀ c ∈ d, isDig c = true) (hl : d.length ≤ 3) (hk : numOk d = true) : Lib.itoa ((valD d : Nat) : Int) = d := by
  obtain ⟨h1, h2⟩ := dec3_val d hd hl hk
  unfold Lib.itoa
  rw [if_neg (by omega), Int.toNat_natCast, dec3_eq _ h2, h1]
/-- Nothing that goes on with a digit. -/
def noDig (s : Bs) : Bool := match s with | [] => true | c :: _ => !isDig c
theorem tw_app (p : UInt8 → Bool) : ∀ (d s : Bs), (∀ c ∈ d, p c = true) → (match s with | [] => true | c :: _ => !p c) = true → (d ++ s).takeWhile p = d
  | [], [], _, _ => rfl
  | [], c :: s, _, h => by
    have : p c = false := by simpa using h
    simp [this]
  | c :: d, s, hd, h => by
    rw [List.cons_append, List.takeWhile_cons, if_pos (hd c (by simp)), tw_app p d s (fun x hx => hd x (by simp [hx])) h]
theorem tw_pre (p : UInt8 → Bool) : ∀ (s : Bs) (k : Nat), k ≤ (s.takeWhile p).length → s.take k = (s.takeWhile p).take k
  | [], k, _ => by simp
  | c :: s, 0, _ => by simp
  | c :: s, k + 1, h => by
    rw [List.takeWhile_cons] at h ⊢
    split at h
    · rename_i hc
      rw [List.length_cons] at h
      rw [if_pos hc, List.take_succ_cons, List.take_succ_cons, tw_pre p s k (by omega)]
    · simp at h
theorem tw_mem (p : UInt8 → Bool) : ∀ (s : Bs) (c : UInt8), c ∈ s.takeWhile p → p c = true
  | [], c, h => by simp at h
  | b :: s, c, h => by
    rw [List.takeWhile_cons] at h
    split at h
    · rcases List.mem_cons.1 h with rfl | h
      · assumption
      · exact tw_mem p s c h
    · simp at h
theorem numP_txt (n : Int) (h0 : 0 ≤ n) (h1 : n ≤ 255) (s : Bs) (hs : noDig s = true) : numP (Lib.itoa n ++ s) = some (n.toNat, s) := by
  have o := itoa_ok3 n h0 h1
  have e : digs3 (Lib.itoa n ++ s) = Lib.itoa n := by
    unfold digs3
    rw [tw_app isDig _ _ o.digs hs, List.take_of_length_le o.le]
  unfold numP
  rw [e, if_pos o.ok, o.val, List.drop_left]
theorem numD_txt (n : Int) (h0 : 0 ≤ n) (h1 : n ≤ 255) (s : Bs) (hs : noDig s = true) : numD (Lib.itoa n ++ s) = some (n.toNat, s) := by
  have o := itoa_ok3 n h0 h1
  unfold numD
  rw [tw_app isDig _ _ o.digs hs, if_pos ⟨o.ok, o.le⟩, o.val, List.drop_left]
theorem numP_back {s r : Bs} {n : Nat} (h : numP s = some (n, r)) : s = Lib.itoa (n : Int) ++ r := by
  unfold numP at h
  split at h
  · rename_i hk
    cases h
    have hd : ∀ c ∈ digs3 s, isDig c = true := fun c hc => tw_mem isDig s c (List.mem_of_mem_take hc)
    have hl : (digs3 s).length ≤ 3 := by unfold digs3; rw [List.length_take]; omega
    rw [itoa_val _ hd hl hk]
    have : s.take (digs3 s).length = digs3 s := by
      rw [tw_pre isDig s _ (by unfold digs3; rw [List.length_take]; omega)]
      unfold digs3
      rw [List.length_take, List.take_eq_take_iff]
      omega
    conv => lhs; rw [← List.take_append_drop (digs3 s).length s, this]
  · cases h
theorem numD_back {s r : Bs} {n : Nat} (h : numD s = some (n, r)) : s = Lib.itoa (n : Int) ++ r := by
  unfold numD at h
  split at h
  · rename_i hk
    cases h
    rw [itoa_val _ (fun c hc => tw_mem isDig s c hc) hk.2 hk.1]
    have : s.take (s.takeWhile isDig).length = s.takeWhile isDig := by
      rw [tw_pre isDig s _ (Nat.le_refl _), List.take_of_length_le (Nat.le_refl _)]
    conv => lhs; rw [← List.take_append_drop (s.takeWhile isDig).length s, this]
  · cases h

/-! ### What reads types -/
def recP (read : Bs → Option (Ty × Bs)) : Nat → Bs → List Bs → List Ty → Option (Ty × Bs)
  | 0, _, _, _ => none
  | m + 1, s, names, kids => match read (s.dropWhile (fun b => b != 58)).tail with
    | none => none
    | some (t, r) => match r with
      | [] => none
      | c :: r' => if c = 44 then recP read m r' (names ++ [s.takeWhile (fun b => b != 58)]) (kids ++ [t])
        else if c = 41 then some (.mk 4 0 (names ++ [s.takeWhile (fun b => b != 58)]) (kids ++ [t]), r') else none
/-- A type ahead, as the program takes it; so deep at most. -/
def readP : Nat → Bs → Option (Ty × Bs)
  | 0, _ => none
  | f + 1, s => match s with
    | [] => none
    | c :: r => if c = 105 then (numP r).map fun x => (.mk 1 x.1 [] [], x.2)
      else if c = 116 then (numP r).map fun x => (.mk 2 x.1 [] [], x.2)
      else if c = 108 then match numP r with
        | some (n, 40 :: r2) => match readP f r2 with
          | some (t, 41 :: r3) => some (.mk 3 n [] [t], r3)
          | _ => none
        | _ => none
      else if c = 114 then match r with
        | 40 :: r2 => recP (readP f) 12 r2 [] []
        | _ => none
      else none
def recD (read : Bs → Option (Ty × Bs)) : Nat → Bs → List Bs → List Ty → Option (Ty × Bs)
  | 0, _, _, _ => none
  | m + 1, s, names, kids => match s.dropWhile isLow with
    | [] => none
    | c :: l => if c = 58 then match read l with
        | none => none
        | some (t, r) => match r with
          | [] => none
          | c :: r' => if c = 41 then some (.mk 4 0 (names ++ [s.takeWhile isLow]) (kids ++ [t]), r')
            else if c = 44 then recD read m r' (names ++ [s.takeWhile isLow]) (kids ++ [t]) else none
      else none
/-- A type ahead, as the document takes it. -/
def takeD : Nat → Bs → Option (Ty × Bs)
  | 0, _ => none
  | f + 1, s => match s with
    | [] => none
    | c :: r => if c = 114 ∧ r.head? = some 40 then recD (takeD f) 13 r.tail [] []
      else match numD r with
        | none => none
        | some (n, r2) => if c = 105 then some (.mk 1 n [] [], r2) else if c = 116 then some (.mk 2 n [] [], r2)
          else if c = 108 then match r2 with
            | 40 :: r3 => match takeD f r3 with
              | some (t, 41 :: r4) => some (.mk 3 n [] [t], r4)
              | _ => none
            | _ => none
          else none
end Go.Proofs.YtjppcfjjpkniaaaGreatDoor
namespace Go.Proofs.YtjppcfjjpkniaaaGreatDoor

inductive Node : Int → Int → List Bs → Nat → Prop where
  | int {n : Int} (h0 : 0 ≤ n) (h1 : n ≤ 255) : Node 1 n [] 0
  | text {n : Int} (h0 : 0 ≤ n) (h1 : n ≤ 255) : Node 2 n [] 0
  | list {n : Int} (h0 : 0 ≤ n) (h1 : n ≤ 255) : Node 3 n [] 1
  | rc {names : List Bs} {kn : Nat} (h0 : 1 ≤ kn) (h1 : kn ≤ 12) (h2 : names.length = kn) (h3 : namesTo names names.length = true) : Node 4 0 names kn
theorem nodeB_node {k n : Int} {names : List Bs} {kn : Nat} (h : nodeB k n names kn = true) : Node k n names kn := by
  unfold nodeB at h
  split at h
  · rename_i hk; subst hk
    simp only [Bool.and_eq_true, Bool.or_eq_true, decide_eq_true_eq] at h
    obtain ⟨⟨h1, h2⟩, rfl⟩ := h
    rw [List.eq_nil_of_length_eq_zero h2]
    exact .int (by omega) (by omega)
  split at h
  · rename_i hk; subst hk
    simp only [Bool.and_eq_true, decide_eq_true_eq] at h
    obtain ⟨⟨⟨h1, h3⟩, h2⟩, rfl⟩ := h
    rw [List.eq_nil_of_length_eq_zero h2]
    exact .text (by omega) (by omega)
  split at h
  · rename_i hk; subst hk
    simp only [Bool.and_eq_true, decide_eq_true_eq] at h
    obtain ⟨⟨⟨h1, h3⟩, h2⟩, rfl⟩ := h
    rw [List.eq_nil_of_length_eq_zero h2]
    exact .list (by omega) (by omega)
  split at h
  · rename_i hk; subst hk
    simp only [Bool.and_eq_true, decide_eq_true_eq] at h
    obtain ⟨⟨⟨⟨rfl, h1⟩, h2⟩, h3⟩, h4⟩ := h
    exact .rc h1 h2 h3 h4
  · cases h
theorem namesTo_mem {l : List Bs} (h : namesTo l l.length = true) {a : Bs} (ha : a ∈ l) : nameB a = true := by
  obtain ⟨i, hi, rfl⟩ := List.mem_iff_getElem.1 ha
  unfold namesTo at h
  have := List.all_eq_true.1 h i (List.mem_range.2 hi)
  simp only [Bool.and_eq_true] at this
  rw [List.getD_eq_getElem?_getD, List.getElem?_eq_getElem hi] at this
  exact this.1
theorem nameB_low {a : Bs} (h : nameB a = true) : ∀ c ∈ a, isLow c = true := by
  unfold nameB at h
  simp only [Bool.and_eq_true] at h
  exact List.all_eq_true.1 h.1.1
theorem low_ne {c : UInt8} (h : isLow c = true) : c ≠ 58 := by
  rintro rfl
  simp [isLow] at h
theorem low_bne {a : Bs} (h : ∀ c ∈ a, isLow c = true) : ∀ c ∈ a, (c != 58) = true := fun c hc => by simpa using low_ne (h c hc)
def sepOk (r : Bs) : Prop := ∃ c r', r = c :: r' ∧ (c = 44 ∨ c = 41)
theorem sep_noDig {r : Bs} (h : sepOk r) : noDig r = true := by
  obtain ⟨c, r', rfl, rfl | rfl⟩ := h <;> rfl
def endOk (t : Ty) (r : Bs) : Prop := (t.kind = 1 ∨ t.kind = 2) → noDig r = true
theorem dw_app (p : UInt8 → Bool) : ∀ (d : Bs) (c : UInt8) (s : Bs), (∀ c ∈ d, p c = true) → p c = false → (d ++ c :: s).dropWhile p = c :: s
  | [], c, s, _, h => by simp [h]
  | b :: d, c, s, hd, h => by rw [List.cons_append, List.dropWhile_cons, if_pos (hd b (by simp)), dw_app p d c s (fun x hx => hd x (by simp [hx])) h]
theorem tw_app' (p : UInt8 → Bool) (d : Bs) (c : UInt8) (s : Bs) (hd : ∀ c ∈ d, p c = true) (h : p c = false) : (d ++ c :: s).takeWhile p = d := tw_app p d (c :: s) hd (by simp [h])
theorem fieldT_cons {a : Bs} {ns : List Bs} {x : Bs} {xs : List Bs} (h : ns.length = xs.length) : fieldT (a :: ns) (x :: xs) = a ++ 58 :: (x ++ (if ns = [] then [] else 44 :: fieldT ns xs)) := by
  match ns, xs, h with
  | [], [], _ => simp [fieldT]
  | b :: r, y :: s, _ => simp [fieldT]
theorem recP_txt (read : Bs → Option (Ty × Bs)) (rest : Bs) : ∀ (ks : List Ty) (ns : List Bs) (m : Nat) (N : List Bs) (K : List Ty), ks ≠ [] → ns.length = ks.length → ks.length ≤ m →
    (∀ a ∈ ns, ∀ c ∈ a, (c != 58) = true) → (∀ t ∈ ks, ∀ r, sepOk r → read (t.txt ++ r) = some (t, r)) → recP read m (fieldT ns (txtL ks) ++ 41 :: rest) N K = some (.mk 4 0 (N ++ ns) (K ++ ks), rest)
  | k :: ks, a :: ns, m + 1, N, K, _, hl, hm, hn, hr => by
    have hl' : ns.length = ks.length := by simpa using hl
    have ha := hn a (by simp)
    rw [txtL, fieldT_cons (by rw [txtL_len]; exact hl')]
    unfold recP
    simp only [List.append_assoc, List.cons_append]
    rw [dw_app _ a 58 _ ha (by rfl), tw_app' _ a 58 _ ha (by rfl), List.tail_cons]
    by_cases h0 : ns = []
    · have h1 : ks = [] := List.eq_nil_of_length_eq_zero (by rw [← hl', h0]; rfl)
      subst h0; subst h1
      rw [if_pos rfl, List.nil_append, hr k (by simp) (41 :: rest) ⟨41, rest, rfl, Or.inr rfl⟩]
      simp
    · have h1 : ks ≠ [] := fun e => h0 (List.eq_nil_of_length_eq_zero (by rw [hl', e]; rfl))
      rw [if_neg h0, List.cons_append, hr k (by simp) _ ⟨44, _, rfl, Or.inl rfl⟩]
      have ih := recP_txt read rest ks ns m (N ++ [a]) (K ++ [k]) h1 hl' (by simp at hm; omega) (fun a ha => hn a (by simp [ha])) (fun t ht => hr t (by simp [ht]))
      simp only [if_true]
      rw [ih]
      simp
theorem recD_txt (read : Bs → Option (Ty × Bs)) (rest : Bs) : ∀ (ks : List Ty) (ns : List Bs) (m : Nat) (N : List Bs) (K : List Ty), ks ≠ [] → ns.length = ks.length → ks.length ≤ m →
    (∀ a ∈ ns, ∀ c ∈ a, isLow c = true) → (∀ t ∈ ks, ∀ r, sepOk r → read (t.txt ++ r) = some (t, r)) → recD read m (fieldT ns (txtL ks) ++ 41 :: rest) N K = some (.mk 4 0 (N ++ ns) (K ++ ks), rest)
  | k :: ks, a :: ns, m + 1, N, K, _, hl, hm, hn, hr => by
    have hl' : ns.length = ks.length := by simpa using hl
    have ha := hn a (by simp)
    rw [txtL, fieldT_cons (by rw [txtL_len]; exact hl')]
    unfold recD
    simp only [List.append_assoc, List.cons_append]
    rw [dw_app _ a 58 _ ha (by rfl), tw_app' _ a 58 _ ha (by rfl)]
    simp only [if_true]
    by_cases h0 : ns = []
    · have h1 : ks = [] := List.eq_nil_of_length_eq_zero (by rw [← hl', h0]; rfl)
      subst h0; subst h1
      rw [if_pos rfl, List.nil_append, hr k (by simp) (41 :: rest) ⟨41, rest, rfl, Or.inr rfl⟩]
      simp
    · have h1 : ks ≠ [] := fun e => h0 (List.eq_nil_of_length_eq_zero (by rw [hl', e]; rfl))
      rw [if_neg h0, List.cons_append, hr k (by simp) _ ⟨44, _, rfl, Or.inl rfl⟩]
      have ih := recD_txt read rest ks ns m (N ++ [a]) (K ++ [k]) h1 hl' (by simp at hm; omega) (fun a ha => hn a (by simp [ha])) (fun t ht => hr t (by simp [ht]))
      have e44 : ¬ (44 : UInt8) = 41 := by decide
      simp only [e44, if_false, if_true]
      rw [ih]
      simp
theorem readP_txt : ∀ (f : Nat) (t : Ty) (r : Bs), t.formed = true → t.depth ≤ f → endOk t r → readP f (t.txt ++ r) = some (t, r)
  | 0, .mk k n names l, r, _, hd, _ => by simp [Ty.depth] at hd
  | f + 1, .mk k n names l, r, hf, hd, he => by
    simp only [Ty.formed, Bool.and_eq_true] at hf
    obtain ⟨hn, hl⟩ := hf
    simp only [Ty.depth] at hd
    cases l with
    | nil =>
      cases nodeB_node hn with
      | int h0 h1 =>
        have hs : noDig r = true := he (Or.inl rfl)
        simp only [Ty.txt]
        simp [readP, numP_txt n h0 h1 r hs]; omega
      | text h0 h1 =>
        have hs : noDig r = true := he (Or.inr rfl)
        simp only [Ty.txt]
        simp [readP, numP_txt n h0 h1 r hs]; omega
      | rc h0 => simp at h0
    | cons k1 ks =>
      have hnode := nodeB_node hn
      generalize hkn : (k1 :: ks).length = kn at hnode
      cases hnode with
      | int => simp at hkn
      | text => simp at hkn
      | list h0 h1 =>
        have : ks = [] := by simpa using hkn
        subst this
        have ih := readP_txt f k1 (41 :: r) (by simpa [formedL] using hl) (by simp [depthL] at hd; omega) (fun _ => rfl)
        simp only [Ty.txt, txtL, List.headD_cons]
        simp [readP, numP_txt n h0 h1 (40 :: (k1.txt ++ 41 :: r)) rfl, ih]; omega
      | rc h0 h1 h2 h3 =>
        have ih := recP_txt (readP f) r (k1 :: ks) names 12 [] [] (by simp) (by rw [h2, hkn]) (by rw [hkn]; exact h1)
          (fun a ha => low_bne (nameB_low (namesTo_mem h3 ha))) (fun t ht r' hr' => readP_txt f t r' (formedL_mem hl ht) (by have := depthL_mem ht; omega) (fun _ => sep_noDig hr'))
        simp only [Ty.txt]
        simp [readP, ih]
theorem takeD_txt : ∀ (f : Nat) (t : Ty) (r : Bs), t.formed = true → t.depth ≤ f → endOk t r → takeD f (t.txt ++ r) = some (t, r)
  | 0, .mk k n names l, r, _, hd, _ => by simp [Ty.depth] at hd
  | f + 1, .mk k n names l, r, hf, hd, he => by
    simp only [Ty.formed, Bool.and_eq_true] at hf
    obtain ⟨hn, hl⟩ := hf
    simp only [Ty.depth] at hd
    cases l with
    | nil =>
      cases nodeB_node hn with
      | int h0 h1 =>
        have hs : noDig r = true := he (Or.inl rfl)
        simp only [Ty.txt]
        simp [takeD, numD_txt n h0 h1 r hs]; omega
      | text h0 h1 =>
        have hs : noDig r = true := he (Or.inr rfl)
        simp only [Ty.txt]
        simp [takeD, numD_txt n h0 h1 r hs]; omega
      | rc h0 => simp at h0
    | cons k1 ks =>
      have hnode := nodeB_node hn
      generalize hkn : (k1 :: ks).length = kn at hnode
      cases hnode with
      | int => simp at hkn
      | text => simp at hkn
      | list h0 h1 =>
        have : ks = [] := by simpa using hkn
        subst this
        have ih := takeD_txt f k1 (41 :: r) (by simpa [formedL] using hl) (by simp [depthL] at hd; omega) (fun _ => rfl)
        simp only [Ty.txt, txtL, List.headD_cons]
        simp [takeD, numD_txt n h0 h1 (40 :: (k1.txt ++ 41 :: r)) rfl, ih]; omega
      | rc h0 h1 h2 h3 =>
        have ih := recD_txt (takeD f) r (k1 :: ks) names 13 [] [] (by simp) (by rw [h2, hkn]) (by rw [hkn]; omega)
          (fun a ha => nameB_low (namesTo_mem h3 ha)) (fun t ht r' hr' => takeD_txt f t r' (formedL_mem hl ht) (by have := depthL_mem ht; omega) (fun _ => sep_noDig hr'))
        simp only [Ty.txt]
        simp [takeD, ih]
/-! ### And nothing else is read so -/
theorem dw_tw (p : UInt8 → Bool) (s : Bs) : s.takeWhile p ++ s.dropWhile p = s := List.takeWhile_append_dropWhile
theorem dw_head (p : UInt8 → Bool) : ∀ (s : Bs) (c : UInt8) (l : Bs), s.dropWhile p = c :: l → p c = false
  | [], _, _, h => by simp at h
  | b :: s, c, l, h => by
    rw [List.dropWhile_cons] at h
    split at h
    · exact dw_head p s c l h
    · rename_i hb
      cases h
      simpa using hb
theorem fieldT_one {a x : Bs} : fieldT [a] [x] = a ++ 58 :: x := by simp [fieldT]
theorem recP_back (read : Bs → Option (Ty × Bs)) (h0 : read [] = none) (hr : ∀ s t r, read s = some (t, r) → t.formed = true → s = t.txt ++ r) (rest : Bs) : ∀ (m : Nat) (s : Bs) (N : List Bs) (K : List Ty) (t : Ty), recP read m s N K = some (t, rest) →
    ∃ ns ks, ns ≠ [] ∧ ns.length = ks.length ∧ t = .mk 4 0 (N ++ ns) (K ++ ks) ∧ (formedL (K ++ ks) = true → s = fieldT ns (txtL ks) ++ 41 :: rest)
  | 0, _, _, _, _, h => by simp [recP] at h
  | m + 1, s, N, K, t, h => by
    unfold recP at h
    cases hd : s.dropWhile (fun b => b != 58) with
    | nil => rw [hd, List.tail_nil, h0] at h; cases h
    | cons c l =>
      have hc : c = 58 := by have := dw_head _ _ _ _ hd; simpa using this
      subst hc
      have hs := dw_tw (fun b => b != 58) s
      rw [hd] at hs h
      rw [List.tail_cons] at h
      generalize s.takeWhile (fun b => b != 58) = a at hs h
      subst hs
      cases hk : read l with
      | none => rw [hk] at h; cases h
      | some x =>
        obtain ⟨k, r⟩ := x
        rw [hk] at h
        cases r with
        | nil => cases h
        | cons c r' =>
          simp only at h
          split at h
          · rename_i hc
            subst hc
            obtain ⟨ns, ks, hne, hlen, rfl, hs⟩ := recP_back read h0 hr rest m r' _ _ t h
            refine ⟨a :: ns, k :: ks, by simp, by simp [hlen], by simp, fun hf => ?_⟩
            have hf' : formedL (K ++ [k] ++ ks) = true := by simpa using hf
            have hkf : k.formed = true := formedL_mem hf' (by simp)
            rw [txtL, fieldT_cons (by rw [txtL_len]; exact hlen), if_neg hne, hr l k _ hk hkf, hs hf']
            simp
          · split at h
            · rename_i hc
              subst hc
              cases h
              refine ⟨[a], [k], by simp, rfl, rfl, fun hf => ?_⟩
              have hkf : k.formed = true := formedL_mem hf (by simp)
              rw [txtL, txtL, fieldT_one, hr l k _ hk hkf]
              simp
            · cases h
theorem recD_back (read : Bs → Option (Ty × Bs)) (hr : ∀ s t r, read s = some (t, r) → t.formed = true → s = t.txt ++ r) (rest : Bs) : ∀ (m : Nat) (s : Bs) (N : List Bs) (K : List Ty) (t : Ty), recD read m s N K = some (t, rest) →
    ∃ ns ks, ns ≠ [] ∧ ns.length = ks.length ∧ t = .mk 4 0 (N ++ ns) (K ++ ks) ∧ (formedL (K ++ ks) = true → s = fieldT ns (txtL ks) ++ 41 :: rest)
  | 0, _, _, _, _, h => by simp [recD] at h
  | m + 1, s, N, K, t, h => by
    unfold recD at h
    cases hd : s.dropWhile isLow with
    | nil => rw [hd] at h; cases h
    | cons c l =>
      have hs := dw_tw isLow s
      rw [hd] at hs h
      simp only at h
      split at h
      · rename_i hc
        subst hc
        generalize s.takeWhile isLow = a at hs h
        subst hs
        cases hk : read l with
        | none => rw [hk] at h; cases h
        | some x =>
          obtain ⟨k, r⟩ := x
          rw [hk] at h
          cases r with
          | nil => cases h
          | cons c r' =>
            simp only at h
            split at h
            · rename_i hc
              subst hc
              cases h
              refine ⟨[a], [k], by simp, rfl, rfl, fun hf => ?_⟩
              have hkf : k.formed = true := formedL_mem hf (by simp)
              rw [txtL, txtL, fieldT_one, hr l k _ hk hkf]
              simp
            · split at h
              · rename_i hc
                subst hc
                obtain ⟨ns, ks, hne, hlen, rfl, hs⟩ := recD_back read hr rest m r' _ _ t h
                refine ⟨a :: ns, k :: ks, by simp, by simp [hlen], by simp, fun hf => ?_⟩
                have hf' : formedL (K ++ [k] ++ ks) = true := by simpa using hf
                have hkf : k.formed = true := formedL_mem hf' (by simp)
                rw [txtL, fieldT_cons (by rw [txtL_len]; exact hlen), if_neg hne, hr l k _ hk hkf, hs hf']
                simp
              · cases h
      · cases h
theorem formed_mk {k n : Int} {ns : List Bs} {l : List Ty} (h : (Ty.mk k n ns l).formed = true) : formedL l = true := by
  simp only [Ty.formed, Bool.and_eq_true] at h
  exact h.2
theorem readP_nil : ∀ f, readP f [] = none
  | 0 => rfl
  | _ + 1 => rfl
theorem readP_back : ∀ (f : Nat) (s : Bs) (t : Ty) (r : Bs), readP f s = some (t, r) → t.formed = true → s = t.txt ++ r
  | 0, _, _, _, h, _ => by simp [readP] at h
  | f + 1, s, t, r, h, hf => by
    unfold readP at h
    cases s with
    | nil => cases h
    | cons c l =>
      simp only at h
      split at h
      · rename_i hc; subst hc
        obtain ⟨⟨n, r2⟩, h1, h2⟩ := Option.map_eq_some_iff.1 h
        cases h2
        rw [numP_back h1]
        simp [Ty.txt]
      split at h
      · rename_i hc; subst hc
        obtain ⟨⟨n, r2⟩, h1, h2⟩ := Option.map_eq_some_iff.1 h
        cases h2
        rw [numP_back h1]
        simp [Ty.txt]
      split at h
      · rename_i hc; subst hc
        split at h
        · rename_i n r2 h1
          split at h
          · rename_i k r3 h2
            cases h
            rw [numP_back h1, readP_back f r2 k _ h2 (formedL_mem (formed_mk hf) (by simp))]
            simp [Ty.txt, txtL]
          · cases h
        · cases h
      split at h
      · rename_i hc; subst hc
        split at h
        · rename_i r2
          obtain ⟨ns, ks, _, _, rfl, hs⟩ := recP_back (readP f) (readP_nil f) (fun s t r => readP_back f s t r) r 12 r2 [] [] t h
          rw [hs (formed_mk hf)]
          simp [Ty.txt]
        · cases h
      · cases h
theorem takeD_back : ∀ (f : Nat) (s : Bs) (t : Ty) (r : Bs), takeD f s = some (t, r) → t.formed = true → s = t.txt ++ r
  | 0, _, _, _, h, _ => by simp [takeD] at h
  | f + 1, s, t, r, h, hf => by
    unfold takeD at h
    cases s with
    | nil => cases h
    | cons c l =>
      simp only at h
      split at h
      · rename_i hc
        obtain ⟨rfl, hh⟩ := hc
        obtain ⟨l', rfl⟩ : ∃ l', l = 40 :: l' := by cases l with
          | nil => cases hh
          | cons a l' => simp at hh; exact ⟨l', by rw [hh]⟩
        obtain ⟨ns, ks, _, _, rfl, hs⟩ := recD_back (takeD f) (fun s t r => takeD_back f s t r) r 13 l' [] [] t h
        rw [hs (formed_mk hf)]
        simp [Ty.txt]
      · split at h
        · cases h
        · rename_i n r2 h1
          split at h
          · rename_i hc; subst hc
            cases h
            rw [numD_back h1]
            simp [Ty.txt]
          split at h
          · rename_i hc; subst hc
            cases h
            rw [numD_back h1]
            simp [Ty.txt]
          split at h
          · rename_i hc; subst hc
            split at h
            · rename_i r3
              split at h
              · rename_i k r4 h2
                cases h
                rw [numD_back h1, takeD_back f r3 k _ h2 (formedL_mem (formed_mk hf) (by simp))]
                simp [Ty.txt, txtL]
              · cases h
            · cases h
          · cases h
/-- A text's type. -/
def parseF (s : Bs) : Option Ty := match readP 6 s with | some (t, []) => if t.right = true then some t else none | _ => none
def parseD (s : Bs) : Option Ty := match takeD 6 s with | some (t, []) => if t.right = true then some t else none | _ => none
theorem right_formed {t : Ty} (h : t.right = true) : t.formed = true ∧ t.depth ≤ 6 := by
  unfold Ty.right at h
  simp only [Bool.and_eq_true, decide_eq_true_eq] at h
  exact ⟨h.2, h.1.1⟩
theorem parseF_txt {t : Ty} (h : t.right = true) : parseF t.txt = some t := by
  obtain ⟨h1, h2⟩ := right_formed h
  have := readP_txt 6 t [] h1 h2 (fun _ => rfl)
  rw [List.append_nil] at this
  unfold parseF
  rw [this]
  simp [h]
theorem parseD_txt {t : Ty} (h : t.right = true) : parseD t.txt = some t := by
  obtain ⟨h1, h2⟩ := right_formed h
  have := takeD_txt 6 t [] h1 h2 (fun _ => rfl)
  rw [List.append_nil] at this
  unfold parseD
  rw [this]
  simp [h]
theorem parseF_back {s : Bs} {t : Ty} (h : parseF s = some t) : t.right = true ∧ s = t.txt := by
  unfold parseF at h
  split at h
  · rename_i u hu
    split at h
    · rename_i hr
      cases h
      have := readP_back 6 s t [] hu (right_formed hr).1
      rw [List.append_nil] at this
      exact ⟨hr, this⟩
    · cases h
  · cases h
theorem parseD_back {s : Bs} {t : Ty} (h : parseD s = some t) : t.right = true ∧ s = t.txt := by
  unfold parseD at h
  split at h
  · rename_i u hu
    split at h
    · rename_i hr
      cases h
      have := takeD_back 6 s t [] hu (right_formed hr).1
      rw [List.append_nil] at this
      exact ⟨hr, this⟩
    · cases h
  · cases h
theorem parse_same (s : Bs) : parseD s = parseF s := by
  cases h : parseF s with
  | some t =>
    obtain ⟨h1, h2⟩ := parseF_back h
    rw [h2, parseD_txt h1]
  | none =>
    cases h' : parseD s with
    | none => rfl
    | some t =>
      obtain ⟨h1, h2⟩ := parseD_back h'
      rw [h2, parseF_txt h1] at h
      cases h
/-- No List's or Rec's text goes on to another one's. -/
theorem parse_cut {t : Ty} (h : t.right = true) (hk : t.kind ≠ 1 ∧ t.kind ≠ 2) {more : Bs} (hm : more ≠ []) : parseF (t.txt ++ more) = none := by
  cases hu : parseF (t.txt ++ more) with
  | none => rfl
  | some u =>
    obtain ⟨h1, h2⟩ := right_formed h
    have e1 := readP_txt 6 t more h1 h2 (fun e => by rcases e with e | e <;> simp_all)
    obtain ⟨g1, g2⟩ := parseF_back hu
    obtain ⟨g3, g4⟩ := right_formed g1
    have e2 := readP_txt 6 u [] g3 g4 (fun _ => rfl)
    rw [List.append_nil, ← g2, e1] at e2
    cases e2
    exact absurd rfl hm
end Go.Proofs.YtjppcfjjpkniaaaGreatDoor
namespace Go.Proofs.YtjppcfjjpkniaaaGreatDoor
open Go.ChangeShapes Go.WideShapes Go.ChangeAt Go.RowKit Go.Deep
attribute [local go_sem ↓] Go.wp_at_zero Go.wp_at_succ

abbrev pq (q : Nat) : Value := .pointer (some ⟨q, 0, none⟩)
abbrev u16v (x : Int) : Value := .int .u16 x
theorem hid {p : Prop} (h : p) : Hid p := h
theorem below_one (w : World) (o : Obj) : Below w.heap.size w (w.alloc o) := (Below.refl _ _).alloc (Nat.le_refl _) _
theorem Touch.of_below {q : Nat} {w w' : World} (h : Below w.heap.size w w') : Touch q w w' := ⟨h.os, h.tape, h.output, h.size, fun x hx _ => h.block x hx⟩
theorem wpList_app_run {P : Program} {w : World} {ops : Array Oper} {rest : List Oper} {o : Oper} {a : Act} {Q : Exit → Act → World → Prop} (hgd : o.guard = none) (s x : Operand) (t : TypeId)
    (ho : o.op = .call { callee := .builtin .append, args := #[s, x], argTypes := #[t, t] }) (v1 v2 : Value) (hs : a.eval s = v1) (hx : a.eval x = v2) (ty : TypeId) (hty : o.type = ty) (r : Value) (w' : World)
    (hr : (Builtin.append_ #[t, t] ty #[v1, v2]).run P w = .ok r w') (h : wpList P ops Q rest (a.put o.dst r) w') : wpList P ops Q (o :: rest) a w :=
  wpList_plain hgd fun _ hK => by
    unfold Oper.wp execOp
    simp only [ho, resolve, invoke, builtin, Sem.run_bind, Sem.run_pure, Result.andThen_ok, List.map_toArray, List.map_cons, List.map_nil, hs, hx, hty, hr]
    exact hK _ _ h
theorem own_keep {w w' : World} {base : Nat} {e : TypeId} {size : Nat} {v : Value} {n : Nat} {xs : List Value} (h : w.ownsRow base e size v n xs) (hk : ∀ (k : Nat) (C : Array Value), w.heap[k]? = some (.cells C e) → w'.heap[k]? = some (.cells C e)) : w'.ownsRow base e size v n xs := by
  refine ⟨h.1, ?_⟩
  rcases h.2 with hn | ⟨g, cap, cur, rfl, hbg, hgg, rest⟩
  · exact .inl hn
  · exact .inr ⟨g, cap, cur, rfl, hbg, hk g cur hgg, rest⟩
theorem wp_app_run {P : Program} {w : World} {o : Oper} {a : Act} {K : Act → World → Prop} {Q : Exit → Act → World → Prop} (s x : Operand) (t : TypeId)
    (ho : o.op = .call { callee := .builtin .append, args := #[s, x], argTypes := #[t, t] }) (v1 v2 : Value) (hs : a.eval s = v1) (hx : a.eval x = v2) (ty : TypeId) (hty : o.type = ty) (r : Value) (w' : World)
    (hr : (Builtin.append_ #[t, t] ty #[v1, v2]).run P w = .ok r w') (h : K (a.put o.dst r) w') : Oper.wp P o a w K Q := by
  unfold Oper.wp execOp
  simp only [ho, resolve, invoke, builtin, Sem.run_bind, Sem.run_pure, Result.andThen_ok, List.map_toArray, List.map_cons, List.map_nil, hs, hx, hty, hr]
  exact h
theorem own_keep1 {w w' : World} {base : Nat} {e : TypeId} {size : Nat} {v : Value} {n : Nat} {xs : List Value} (h : w.ownsRow base e size v n xs) (hk : ∀ k, v.ownBlock = some k → w'.heap[k]? = w.heap[k]?) : w'.ownsRow base e size v n xs := by
  refine ⟨h.1, ?_⟩
  rcases h.2 with hn | ⟨g, cap, cur, rfl, hbg, hgg, rest⟩
  · exact .inl hn
  · exact .inr ⟨g, cap, cur, rfl, hbg, (hk g rfl).trans hgg, rest⟩
/-- An append, whose other blocks are all as they were. -/
theorem app_far {t e te : TypeId} {size bytes : Nat} {z : Value} (hu : Tryz.prog.underlying t = some (.slice e)) (hin : (Tryz.prog.info? e).map (fun i => (i.zero, i.size, i.bytes)) = some (some z, size, bytes)) (hzs : z.cells.size = size) (hsz : 0 < size) (hby : bytes ≤ 1000)
    {V : World} {base : Nat} {v : Value} {n : Nat} {xs : List Value} (ho : V.ownsRow base e size v n xs) (C : List Value) (hC : C.length = size) (h1 : ∀ u ∈ C, u.oneCell' = true) (hn : n ≤ 3000000) (hB : base ≤ V.heap.size) :
    ∃ ao cap w', (Builtin.append_ #[t, t] t #[v, .slice (some ⟨V.heap.size, 0, none⟩) 1 1]).run Tryz.prog (V.alloc (.cells C.toArray te)) = .ok (.slice ao (n + 1) cap) w' ∧ w'.ownsRow base e size (.slice ao (n + 1) cap) (n + 1) (xs ++ C) ∧ Fr base [e] V w' ∧ (∀ k, k < V.heap.size → some k ≠ v.ownBlock → w'.heap[k]? = V.heap[k]?) ∧ ((Value.slice ao (n + 1) cap).ownBlock = v.ownBlock ∨ (Value.slice ao (n + 1) cap).ownBlock = some (V.heap.size + 1)) := by
  obtain ⟨i, hi, hz, hs, hb⟩ := info_parts hin
  have hb1 : Below V.heap.size V (V.alloc (.cells C.toArray te)) := below_one V _
  have ho2 : (V.alloc (.cells C.toArray te)).ownsRow base e size v n xs := ho.alloc _
  have hmul : (n + 1) * bytes ≤ 140737488355328 := Nat.le_trans (Nat.mul_le_mul (show n + 1 ≤ 3000001 by omega) hby) (by decide)
  obtain ⟨v', w', hr, h2, h3, _, h5⟩ := run_append_own_at (P := Tryz.prog) (V.alloc (.cells C.toArray te)) base t t e i z size bytes hu hi hz hs hb hzs hsz v n xs ho2 ⟨V.heap.size, 0, none⟩ 1 1 C (by rw [hC, Nat.one_mul]) (World.news_of_block (heap_last V _)) h1 (by unfold maxLen; omega) hmul (by have := hb1.size; omega)
  obtain ⟨ao, cap, rfl, _⟩ := own_slice h2
  have hgb : ∀ k o, V.heap[k]? = some o → keeps [e] o = true → w'.heap[k]? = some o := fun k o hk hko => by
    rw [h3.block k (by have := blk_lt hk; simp; omega) (fun hE => ?_)]
    · exact blk_below hk hb1
    · rcases ho.2 with ⟨rfl, _⟩ | ⟨g, cap, cur, rfl, _, hgg, _⟩
      · simp [Value.ownBlock] at hE
      · simp [Value.ownBlock] at hE
        subst hE
        rw [hgg] at hk
        cases hk
        simp [keeps] at hko
  refine ⟨ao, cap, w', hr, h2, ⟨⟨h3.os, h3.tape, h3.output, Nat.le_trans hb1.size h3.size, fun k hk => ?_⟩, hgb⟩, fun k hk hne => ?_, ?_⟩
  · rw [h3.block k (by simp; omega) (fun hE => by have := (ho.lt k hE.symm).1; omega)]
    exact hb1.block k (by omega)
  · rw [h3.block k (by simp; omega) hne]
    exact hb1.block k hk
  · rcases h5 with h5 | h5
    · exact .inl h5
    · exact .inr (by rw [h5]; simp)
theorem own_low {w : World} {base base' : Nat} {e : TypeId} {size : Nat} {v : Value} {n : Nat} {xs : List Value} (h : w.ownsRow base e size v n xs) (hb : base' ≤ base) : w.ownsRow base' e size v n xs := by
  refine ⟨h.1, ?_⟩
  rcases h.2 with hn | ⟨g, cap, cur, rfl, hbg, rest⟩
  · exact .inl hn
  · exact .inr ⟨g, cap, cur, rfl, by omega, rest⟩
theorem results_cell {W : World} {t : Array Value} {a : Addr} {u v : Value} {F : Func} {n m : Nat} {ty : TypeId} (hr : F.results = #[.cell n ty, .tmp m]) (h6 : t.getD n undef = .pointer (some a)) (h7 : t.getD m undef = v) (g : (loadVar ty a).run Tryz.prog W = .ok u W) :
    (results F t).run Tryz.prog W = .ok (.tuple #[u, v]) W := by
  simp only [results, hr]
  simp [Result.andThen, asAddr, h6, h7, g, -Array.getD_eq_getD_getElem?]
theorem set2 {V : World} {b : Nat} {x y : Value} {t : TypeId} (h : V.heap[b]? = some (.cells #[x, y] t)) (s g : Value) : ((V.setCell ⟨b, 0, none⟩ s).setCell ⟨b, 1, none⟩ g).heap[b]? = some (.cells #[s, g] t) := by
  have h1 := heap_setCell_same V b 0 _ t s h
  have h2 := heap_setCell_same _ b 1 _ t g h1
  simpa using h2
theorem eqI (d : Nat) (a b : Int) (w : World) : (Op.equalIn (d + 1) 3 (i64 a) (i64 b)).run Tryz.prog w = .ok (a == b) w := by
  simp [Op.equalIn, run_underlying Tryz.underlying3]
theorem cell_keep {w : World} {a : Addr} {v : Value} (h : w.cell? a = some v) (o : Obj) : (w.alloc o).cell? a = some v := by
  rw [World.cell?_of_block (w := w) (Below.heap_alloc _ _ _ (World.block_lt_of_cell? w _ h))]; exact h
theorem cell_set {w : World} {a : Addr} {v : Value} (h : w.cell? a = some v) (p : Addr) (u : Value) (hne : a.block ≠ p.block) : (w.setCell p u).cell? a = some v := by
  rw [World.cell?_of_block (w := w) (Below.heap_setCell _ _ _ _ hne)]; exact h
theorem wrap_id {x : Int} (h0 : -9223372036854775808 ≤ x) (h1 : x ≤ 9223372036854775807) : IntKind.i64.wrap x = x := by
  simp [IntKind.wrap, IntKind.bits, IntKind.signed]
  omega
theorem wrap_u16 {x : Int} (h0 : 0 ≤ x) (h1 : x ≤ 65535) : IntKind.u16.wrap x = x := by
  simp [IntKind.wrap, IntKind.bits, IntKind.signed]
  omega

/-! ### A type in memory -/
abbrev str (l : Bs) : Value := .string ⟨l.toArray⟩
theorem str_of (s : ByteArray) : Value.string s = str s.data.toList := rfl
/-- A slice of strings that reads as l, in blocks of S. -/
def Strs (w : World) (S : Nat → Prop) (v : Value) (l : List Bs) : Prop :=
  ∃ ao cap, v = .slice ao l.length cap ∧ l.length ≤ maxLen ∧ (l.length ≤ cap ∧ ∀ x ∈ l, x.length ≤ maxLen) ∧ (l = [] ∨ ∃ b off, ao = some ⟨b, off, none⟩ ∧ S b ∧ b < w.heap.size ∧ ∀ i x, l[i]? = some x → w.cell? ⟨b, off + i, none⟩ = some (str x))
/-- A type that reads as T: its Names' slice, its Kids' slice, in blocks of S. -/
inductive Rd (w : World) (S : Nat → Prop) : Ty → Value → Value → Prop where
  | mk {k n : Int} {names : List Bs} {kids : List Ty} {nv : Value} {ao : Option Addr} {cap : Nat} (b off : Nat) (nvs kvs : Nat → Value) (hn : Strs w S nv names) (hl : kids.length ≤ maxLen)
      (ha : kids = [] ∨ (ao = some ⟨b, off, none⟩ ∧ S b ∧ b < w.heap.size))
      (hc : ∀ i T, kids[i]? = some T → w.rangeAt b (off + i * 4) [i64 T.kind, i64 T.num, nvs i, kvs i])
      (hr : ∀ i T, kids[i]? = some T → Rd w S T (nvs i) (kvs i)) : Rd w S (.mk k n names kids) nv (.slice ao kids.length cap)
theorem Strs.move {w w' : World} {S S' : Nat → Prop} {v : Value} {l : List Bs} (h : Strs w S v l) (hz : w.heap.size ≤ w'.heap.size) (hk : ∀ b, S b → b < w.heap.size → S' b ∧ w'.heap[b]? = w.heap[b]?) : Strs w' S' v l := by
  obtain ⟨ao, cap, rfl, h1, h2, h3⟩ := h
  refine ⟨ao, cap, rfl, h1, h2, ?_⟩
  rcases h3 with h3 | ⟨b, off, rfl, hS, hlt, hc⟩
  · exact Or.inl h3
  · exact Or.inr ⟨b, off, rfl, (hk b hS hlt).1, by omega, fun i x hx => by rw [World.cell?_of_block (w := w) (hk b hS hlt).2]; exact hc i x hx⟩
theorem range_keep {w w' : World} {b o : Nat} {l : List Value} (h : w.rangeAt b o l) (hb : w'.heap[b]? = w.heap[b]?) : w'.rangeAt b o l := fun j v hv => by
  rw [World.cell?_of_block (w := w) hb]; exact h j v hv
theorem Rd.move {w w' : World} {S S' : Nat → Prop} {T : Ty} {nv kv : Value} (h : Rd w S T nv kv) (hz : w.heap.size ≤ w'.heap.size) (hk : ∀ b, S b → b < w.heap.size → S' b ∧ w'.heap[b]? = w.heap[b]?) : Rd w' S' T nv kv := by
  induction h with
  | mk b off nvs kvs hn hl ha hc _ ih =>
    refine .mk b off nvs kvs (hn.move hz hk) hl ?_ ?_ ih
    · rcases ha with ha | ⟨h1, h2, h3⟩
      · exact Or.inl ha
      · exact Or.inr ⟨h1, (hk b h2 h3).1, by omega⟩
    · intro i T hT
      rcases ha with ha | ⟨h1, h2, h3⟩
      · subst ha; simp at hT
      · exact range_keep (hc i T hT) (hk b h2 h3).2
theorem Rd.under {w w' : World} {S : Nat → Prop} {T : Ty} {nv kv : Value} (h : Rd w S T nv kv) (hb : Below w.heap.size w w') : Rd w' S T nv kv := h.move hb.size fun b hS hlt => ⟨hS, hb.block b hlt⟩
theorem Strs.below {w w' : World} {S : Nat → Prop} {v : Value} {l : List Bs} (h : Strs w S v l) (hb : Below w.heap.size w w') : Strs w' S v l := h.move hb.size fun b hS hlt => ⟨hS, hb.block b hlt⟩
theorem Rd.mono {w : World} {S S' : Nat → Prop} {T : Ty} {nv kv : Value} (h : Rd w S T nv kv) (hs : ∀ b, S b → b < w.heap.size → S' b) : Rd w S' T nv kv := h.move (Nat.le_refl _) fun b hS hlt => ⟨hs b hS hlt, rfl⟩
theorem Strs.mono {w : World} {S S' : Nat → Prop} {v : Value} {l : List Bs} (h : Strs w S v l) (hs : ∀ b, S b → b < w.heap.size → S' b) : Strs w S' v l := h.move (Nat.le_refl _) fun b hS hlt => ⟨hs b hS hlt, rfl⟩
theorem Rd.touch {w w' : World} {q : Nat} {T : Ty} {nv kv : Value} (h : Rd w (fun b => b ≠ q) T nv kv) (ht : Touch q w w') : Rd w' (fun b => b ≠ q) T nv kv := h.move ht.size fun b hS hlt => ⟨hS, ht.block b hlt hS⟩
theorem Strs.at {w : World} {S : Nat → Prop} {v : Value} {l : List Bs} (h : Strs w S v l) : ∃ ao cap, v = .slice ao l.length cap ∧ ∀ k (hk : k < l.length), ∃ b off, ao = some ⟨b, off, none⟩ ∧ b < w.heap.size ∧ w.cell? ⟨b, off + k, none⟩ = some (str l[k]) := by
  obtain ⟨ao, cap, rfl, _, _, h3⟩ := h
  refine ⟨ao, cap, rfl, fun k hk => ?_⟩
  rcases h3 with rfl | ⟨b, off, rfl, _, hlt, hc⟩
  · simp at hk
  · exact ⟨b, off, rfl, hlt, hc k _ (List.getElem?_eq_getElem hk)⟩
/-- What is at a kid's place. -/
theorem Rd.kid {w : World} {S : Nat → Prop} {k n : Int} {names : List Bs} {kids : List Ty} {nv kv : Value} (h : Rd w S (.mk k n names kids) nv kv) : Strs w S nv names ∧ kids.length ≤ maxLen ∧ ∃ ao cap, kv = .slice ao kids.length cap ∧
    ∀ i (hi : i < kids.length), ∃ b off nv' kv', ao = some ⟨b, off, none⟩ ∧ S b ∧ b < w.heap.size ∧ w.rangeAt b (off + i * 4) [i64 kids[i].kind, i64 kids[i].num, nv', kv'] ∧ Rd w S kids[i] nv' kv' := by
  cases h with
  | mk b off nvs kvs hn hl ha hc hr =>
    refine ⟨hn, hl, _, _, rfl, fun i hi => ?_⟩
    have hT : kids[i]? = some kids[i] := List.getElem?_eq_getElem hi
    rcases ha with rfl | ⟨h1, h2, h3⟩
    · simp at hi
    · exact ⟨b, off, nvs i, kvs i, h1, h2, h3, hc i _ hT, hr i _ hT⟩
abbrev tyV (k n : Int) (nv kv : Value) : Value := .agg #[i64 k, i64 n, nv, kv]
end Go.Proofs.YtjppcfjjpkniaaaGreatDoor
namespace Go.Proofs.YtjppcfjjpkniaaaGreatDoor
open Go.ChangeShapes Go.WideShapes Go.ChangeAt Go.RowKit Go.Deep
attribute [local go_sem ↓] Go.wp_at_zero Go.wp_at_succ

theorem set1 {V : World} {b : Nat} {x : Value} {t : TypeId} (h : V.heap[b]? = some (.cells #[x] t)) (s : Value) : (V.setCell ⟨b, 0, none⟩ s).heap[b]? = some (.cells #[s] t) := by
  have h1 := heap_setCell_same V b 0 _ t s h
  simpa using h1
theorem take_countL (l : List Ty) (k : Nat) (hk : k < l.length) : countL (l.take (k + 1)) = countL (l.take k) + l[k].count := by
  induction l generalizing k with
  | nil => simp at hk
  | cons t r ih =>
    cases k with
    | zero => simp [countL]
    | succ k =>
      have := ih k (by simpa using hk)
      simp only [List.take_succ_cons, countL, List.getElem_cons_succ, this]
      omega
theorem Rd.form {w : World} {S : Nat → Prop} {T : Ty} {nv kv : Value} (h : Rd w S T nv kv) : ∃ an cn, nv = .slice an T.names.length cn ∧ ∃ ak ck, kv = .slice ak T.kids.length ck := by
  cases T
  obtain ⟨⟨an, cn, rfl, _, _, _⟩, _, ak, ck, rfl, _⟩ := h.kid
  exact ⟨an, cn, rfl, ak, ck, rfl⟩
def LgOk (w : World) (q : Nat) (m : Int) (T : Ty) (e : Ending) (w' : World) : Prop :=
  ∃ (b : Bool) (m' : Int), e = .returned (.bool b) ∧ w'.heap[q]? = some (.cells #[i64 m'] 35) ∧ Touch q w w' ∧ (b = false → 0 ≤ m' ∧ m' = m - T.count)
set_option maxRecDepth 100000 in
set_option maxHeartbeats 3200000 in
theorem large_big (k n : Int) (names : List Bs) (kids : List Ty) (w : World) (nv kv : Value) (q : Nat) (m d : Int) (hR : Rd w (fun b => b ≠ q) (.mk k n names kids) nv kv) (hq : w.heap[q]? = some (.cells #[i64 m] 35)) (hm : 0 ≤ m) (hm2 : m ≤ 400) (hd : 0 ≤ d) (hd2 : d ≤ 30)
    (hbig : m < 1 ∨ 20 < d ∨ 100 < kids.length ∨ 100 < names.length) : Calls Tryz.prog 23 #[tyV k n nv kv, pq q, i64 d] w (LgOk w q m (.mk k n names kids)) := by
  obtain ⟨⟨an, cn, rfl, hnl, _, _⟩, hkl, ak, ck, rfl, _⟩ := hR.kid
  have hqlt := blk_lt hq
  have HX : Hid ((w.alloc (.cells #[i64 k, i64 n, .slice an names.length cn, .slice ak kids.length ck] 49)).heap[w.heap.size]? = some (.cells #[i64 k, i64 n, .slice an names.length cn, .slice ak kids.length ck] 49)) := heap_last w _
  have HQ : Hid ((w.alloc (.cells #[i64 k, i64 n, .slice an names.length cn, .slice ak kids.length ck] 49)).heap[q]? = some (.cells #[i64 m] 35)) := blk_alloc hq _
  have HT : Hid (Touch q w (w.alloc (.cells #[i64 k, i64 n, .slice an names.length cn, .slice ak kids.length ck] 49))) := (Touch.refl _ _).alloc _
  clear hR hq
  go_enter Tryz.func23, Tryz.ntmps23
  go_upto_region 1 with fail
  obtain ⟨Z, hZ⟩ : ∃ Z, Z = w.heap.size := ⟨_, rfl⟩
  rw [← hZ] at HX hqlt ⊢
  generalize w.alloc (.cells #[i64 k, i64 n, .slice an names.length cn, .slice ak kids.length ck] 49) = V at *
  have yq : V.cell? ⟨q, 0, none⟩ = some (i64 m) := blk_cell HQ.out 0
  have fq : V.frozen? ⟨q, 0, none⟩ = false := blk_frozen HQ.out 0
  have HQ1 : Hid ((V.setCell ⟨q, 0, none⟩ (i64 (m - 1))).heap[q]? = some (.cells #[i64 (m - 1)] 35)) := set1 HQ.out _
  have HX1 : Hid ((V.setCell ⟨q, 0, none⟩ (i64 (m - 1))).heap[Z]? = some (.cells #[i64 k, i64 n, .slice an names.length cn, .slice ak kids.length ck] 49)) := by
    show _ = _
    rw [Below.heap_setCell _ _ _ _ (by show Z ≠ q; omega)]; exact HX.out
  have HT1 : Hid (Touch q w (V.setCell ⟨q, 0, none⟩ (i64 (m - 1)))) := HT.out.setCell rfl _
  have HZ := hid hZ
  clear hZ
  go_upto_region 2 with fail
  generalize V.setCell ⟨q, 0, none⟩ (i64 (m - 1)) = U at *
  have y0 : U.cell? ⟨q, 0, none⟩ = some (i64 (m - 1)) := blk_cell HQ1.out 0
  have y2 : U.cell? ⟨Z, 2, none⟩ = some (.slice an names.length cn) := blk_cell HX1.out 2
  have y3 : U.cell? ⟨Z, 3, none⟩ = some (.slice ak kids.length ck) := blk_cell HX1.out 3
  unfold maxLen at hkl hnl
  by_cases h1 : m < 1
  · go_wp2_with fail
    go_ret
    exact ⟨true, m - 1, rfl, HQ1.out, HT1.out, fun h => by cases h⟩
  · by_cases h2 : 20 < d
    · go_wp2_with fail
      go_ret
      exact ⟨true, m - 1, rfl, HQ1.out, HT1.out, fun h => by cases h⟩
    · by_cases h3 : 100 < kids.length
      · go_wp2_with fail
        go_ret
        exact ⟨true, m - 1, rfl, HQ1.out, HT1.out, fun h => by cases h⟩
      · have h4 : 100 < names.length := by omega
        go_wp2_with fail
        go_ret
        exact ⟨true, m - 1, rfl, HQ1.out, HT1.out, fun h => by cases h⟩
set_option maxRecDepth 100000 in
set_option maxHeartbeats 3200000 in
theorem large_in (k n : Int) (names : List Bs) (kids : List Ty) (w : World) (nv kv : Value) (q : Nat) (m d : Int) (hR : Rd w (fun b => b ≠ q) (.mk k n names kids) nv kv) (hq : w.heap[q]? = some (.cells #[i64 m] 35)) (hm : 1 ≤ m) (hm2 : m ≤ 400) (hd : 0 ≤ d) (hd2 : d ≤ 20) (hk1 : kids.length ≤ 100) (hn1 : names.length ≤ 100)
    (hih : ∀ T ∈ kids, ∀ (w : World) (nv kv : Value) (m : Int), Rd w (fun b => b ≠ q) T nv kv → w.heap[q]? = some (.cells #[i64 m] 35) → 0 ≤ m → m ≤ 400 → Calls Tryz.prog 23 #[tyV T.kind T.num nv kv, pq q, i64 (d + 1)] w (LgOk w q m T)) : Calls Tryz.prog 23 #[tyV k n nv kv, pq q, i64 d] w (LgOk w q m (.mk k n names kids)) := by
  have HRd : Hid (Rd w (fun b => b ≠ q) (.mk k n names kids) nv kv) := hR
  obtain ⟨⟨an, cn, rfl, _, _, _⟩, _, ak, ck, rfl, _⟩ := hR.kid
  have hqlt := blk_lt hq
  have HIH := hid hih
  have HX : Hid ((w.alloc (.cells #[i64 k, i64 n, .slice an names.length cn, .slice ak kids.length ck] 49)).heap[w.heap.size]? = some (.cells #[i64 k, i64 n, .slice an names.length cn, .slice ak kids.length ck] 49)) := heap_last w _
  have HQ : Hid ((w.alloc (.cells #[i64 k, i64 n, .slice an names.length cn, .slice ak kids.length ck] 49)).heap[q]? = some (.cells #[i64 m] 35)) := blk_alloc hq _
  have HT : Hid (Touch q w (w.alloc (.cells #[i64 k, i64 n, .slice an names.length cn, .slice ak kids.length ck] 49))) := (Touch.refl _ _).alloc _
  clear hR hq hih
  go_enter Tryz.func23, Tryz.ntmps23
  go_upto_region 1 with fail
  obtain ⟨Z, hZ⟩ : ∃ Z, Z = w.heap.size := ⟨_, rfl⟩
  rw [← hZ] at HX hqlt ⊢
  generalize w.alloc (.cells #[i64 k, i64 n, .slice an names.length cn, .slice ak kids.length ck] 49) = V at *
  have yq : V.cell? ⟨q, 0, none⟩ = some (i64 m) := blk_cell HQ.out 0
  have fq : V.frozen? ⟨q, 0, none⟩ = false := blk_frozen HQ.out 0
  have HQ1 : Hid ((V.setCell ⟨q, 0, none⟩ (i64 (m - 1))).heap[q]? = some (.cells #[i64 (m - 1)] 35)) := set1 HQ.out _
  have HX1 : Hid ((V.setCell ⟨q, 0, none⟩ (i64 (m - 1))).heap[Z]? = some (.cells #[i64 k, i64 n, .slice an names.length cn, .slice ak kids.length ck] 49)) := by
    show _ = _
    rw [Below.heap_setCell _ _ _ _ (by show Z ≠ q; omega)]; exact HX.out
  have HT1 : Hid (Touch q w (V.setCell ⟨q, 0, none⟩ (i64 (m - 1)))) := HT.out.setCell rfl _
  have HZ := hid hZ
  clear hZ
  go_upto_region 2 with fail
  generalize V.setCell ⟨q, 0, none⟩ (i64 (m - 1)) = U at *
  have y0 : U.cell? ⟨q, 0, none⟩ = some (i64 (m - 1)) := blk_cell HQ1.out 0
  have y2 : U.cell? ⟨Z, 2, none⟩ = some (.slice an names.length cn) := blk_cell HX1.out 2
  have y3 : U.cell? ⟨Z, 3, none⟩ = some (.slice ak kids.length ck) := blk_cell HX1.out 3
  go_wp2_with fail
  go_loopw [41] (fun u wr => ∃ (i : Nat) (m1 : Int), i ≤ kids.length ∧ u = i64 i ∧ 0 ≤ m1 ∧ Hid (m1 = m - 1 - countL (kids.take i)) ∧ Hid (wr.heap[q]? = some (.cells #[i64 m1] 35)) ∧ Hid (Touch q w wr)) (fun u _ => kids.length - (intOf u).toNat)
  case atStart => exact ⟨0, m - 1, by omega, rfl, by omega, by show _ = _; simp [countL], HQ1, HT1⟩
  case round =>
    obtain ⟨i, m1, hi, rfl, hm1, HM, HQr, HTr⟩ := hrel
    by_cases hlt : i < kids.length
    · have hm3 : m1 ≤ 400 := by have := HM.out; omega
      obtain ⟨_, _, ak', ck', he, hkid⟩ := (HRd.out.touch HTr.out).kid
      cases he
      obtain ⟨b, off, nv', kv', rfl, hbq, hblt, hr, hrd⟩ := hkid i hlt
      obtain ⟨T, hT⟩ : ∃ T, T = kids[i] := ⟨_, rfl⟩
      rw [← hT] at hr hrd
      have HTm : Hid (T ∈ kids) := by show _; rw [hT]; exact List.getElem_mem hlt
      have HTc : Hid (countL (kids.take (i + 1)) = countL (kids.take i) + T.count) := by show _ = _; rw [hT]; exact take_countL kids i hlt
      have c0 : wr.cell? ⟨b, off + i * 4, none⟩ = some (i64 T.kind) := hr 0 _ rfl
      have c1 : wr.cell? ⟨b, off + i * 4 + 1, none⟩ = some (i64 T.num) := hr 1 _ rfl
      have c2 : wr.cell? ⟨b, off + i * 4 + 2, none⟩ = some nv' := hr 2 _ rfl
      have c3 : wr.cell? ⟨b, off + i * 4 + 3, none⟩ = some kv' := hr 3 _ rfl
      have hqr := blk_lt HQr.out
      have hqr' := hqr
      obtain ⟨⟨an', cn', rfl, _, _, _⟩, _, ak', ck', rfl, _⟩ := (show Rd wr (fun b => b ≠ q) (.mk T.kind T.num T.names T.kids) nv' kv' by cases T; exact hrd).kid
      have HX2 : Hid ((wr.alloc (.cells #[i64 T.kind, i64 T.num, .slice an' T.names.length cn', .slice ak' T.kids.length ck'] 49)).heap[wr.heap.size]? = some (.cells #[i64 T.kind, i64 T.num, .slice an' T.names.length cn', .slice ak' T.kids.length ck'] 49)) := heap_last wr _
      have HT2 : Hid (Touch q w (wr.alloc (.cells #[i64 T.kind, i64 T.num, .slice an' T.names.length cn', .slice ak' T.kids.length ck'] 49))) := HTr.out.alloc _
      have HC : Hid (Calls Tryz.prog 23 #[tyV T.kind T.num (.slice an' T.names.length cn') (.slice ak' T.kids.length ck'), pq q, i64 (d + 1)] (wr.alloc (.cells #[i64 T.kind, i64 T.num, .slice an' T.names.length cn', .slice ak' T.kids.length ck'] 49)) (LgOk (wr.alloc (.cells #[i64 T.kind, i64 T.num, .slice an' T.names.length cn', .slice ak' T.kids.length ck'] 49)) q m1 T)) :=
        HIH.out T HTm.out _ _ _ m1 (hrd.move (by simp) fun b hS hlt => ⟨hS, Below.heap_alloc _ _ _ hlt⟩) (blk_alloc HQr.out _) hm1 hm3
      clear hT hr hrd hkid hqr
      go_upto_region 7 with fail
      obtain ⟨Y, hY⟩ : ∃ Y, Y = wr.heap.size := ⟨_, rfl⟩
      rw [← hY] at HX2 ⊢
      generalize wr.alloc (.cells #[i64 T.kind, i64 T.num, .slice an' T.names.length cn', .slice ak' T.kids.length ck'] 49) = X at *
      have z0 : X.cell? ⟨Y, 0, none⟩ = some (i64 T.kind) := blk_cell HX2.out 0
      have z1 : X.cell? ⟨Y, 1, none⟩ = some (i64 T.num) := blk_cell HX2.out 1
      have z2 : X.cell? ⟨Y, 2, none⟩ = some (.slice an' T.names.length cn') := blk_cell HX2.out 2
      have z3 : X.cell? ⟨Y, 3, none⟩ = some (.slice ak' T.kids.length ck') := blk_cell HX2.out 3
      clear c0 c1 c2 c3 hY
      go_wp2_with fail
      refine HC.out.mono ?_
      rintro e w3 ⟨bb, m2, rfl, hq3, ht3, hf3⟩
      have HQ3 := hid hq3
      have HT3 : Hid (Touch q w w3) := HT2.out.trans ht3
      have HF3 := hid hf3
      clear hq3 ht3 hf3
      cases bb with
      | true =>
        go_wp2_with fail
        go_ret
        exact ⟨true, m2, rfl, HQ3.out, HT3.out, fun h => by cases h⟩
      | false =>
        obtain ⟨g1, g2⟩ := HF3.out rfl
        have HM2 : Hid (m2 = m - 1 - countL (kids.take (i + 1))) := by show _ = _; rw [g2, HM.out, HTc.out]; omega
        clear g2
        go_wp2_with fail
        exact ⟨⟨i + 1, m2, by omega, by go_num, g1, HM2, HQ3, HT3⟩, by simp [intOf]; omega⟩
    · have he : i = kids.length := by omega
      have HM3 : Hid (m1 = m - (Ty.mk k n names kids).count) := by
        show _ = _
        have := HM.out
        rw [he, List.take_of_length_le (Nat.le_refl _)] at this
        simp only [Ty.count]
        omega
      clear he
      go_wp2_with fail
      go_ret
      exact ⟨false, m1, rfl, HQr.out, HTr.out, fun _ => ⟨hm1, HM3.out⟩⟩
theorem large_ok : ∀ (N : Nat) (T : Ty), T.count ≤ N → ∀ (w : World) (nv kv : Value) (q : Nat) (m d : Int), Rd w (fun b => b ≠ q) T nv kv → w.heap[q]? = some (.cells #[i64 m] 35) → 0 ≤ m → m ≤ 400 → 0 ≤ d → d ≤ 30 → Calls Tryz.prog 23 #[tyV T.kind T.num nv kv, pq q, i64 d] w (LgOk w q m T)
  | 0, T, hN, _, _, _, _, _, _, _, _, _, _, _, _ => by have := count_pos T; omega
  | N + 1, .mk k n names kids, hN, w, nv, kv, q, m, d, hR, hq, hm, hm2, hd, hd2 => by
    by_cases hbig : m < 1 ∨ 20 < d ∨ 100 < kids.length ∨ 100 < names.length
    · exact large_big k n names kids w nv kv q m d hR hq hm hm2 hd hd2 hbig
    · refine large_in k n names kids w nv kv q m d hR hq (by omega) hm2 hd (by omega) (by omega) (by omega) (fun T hT w nv kv m hR hq hm hm2 => ?_)
      have := countL_mem hT
      simp only [Ty.count] at hN
      exact large_ok N T (by omega) w nv kv q m (d + 1) hR hq hm hm2 (by omega) (by omega)
end Go.Proofs.YtjppcfjjpkniaaaGreatDoor
namespace Go.Proofs.YtjppcfjjpkniaaaGreatDoor
open Go.ChangeShapes Go.WideShapes Go.ChangeAt Go.RowKit Go.Deep
attribute [local go_sem ↓] Go.wp_at_zero Go.wp_at_succ

theorem ret_int {k : IntKind} {a b : Int} (h : a = b) : Ending.returned (.int k a) = .returned (.int k b) := by rw [h]
theorem take_depthL (l : List Ty) (k : Nat) (hk : k < l.length) : depthL (l.take (k + 1)) = max (depthL (l.take k)) l[k].depth := by
  induction l generalizing k with
  | nil => simp at hk
  | cons t r ih =>
    cases k with
    | zero => simp [depthL]
    | succ k =>
      have := ih k (by simpa using hk)
      simp only [List.take_succ_cons, depthL, List.getElem_cons_succ, this]
      omega
theorem countL_take (l : List Ty) (k : Nat) : countL (l.take k) ≤ countL l := by
  induction l generalizing k with
  | nil => simp [countL]
  | cons t r ih =>
    cases k with
    | zero => simp [countL]
    | succ k => have := ih k; simp only [List.take_succ_cons, countL]; omega
mutual
theorem depth_le : ∀ T : Ty, T.depth ≤ T.count
  | .mk _ _ _ l => by simp only [Ty.depth, Ty.count]; have := depthL_le l; omega
theorem depthL_le : ∀ l : List Ty, depthL l ≤ countL l
  | [] => by simp [depthL]
  | t :: r => by simp only [depthL, countL]; have := depth_le t; have := depthL_le r; omega
end
set_option maxRecDepth 100000 in
set_option maxHeartbeats 3200000 in
theorem count_in (k n : Int) (names : List Bs) (kids : List Ty) (w : World) (S : Nat → Prop) (nv kv : Value) (hR : Rd w S (.mk k n names kids) nv kv) (hcnt : countL kids ≤ 30000000)
    (hih : ∀ T ∈ kids, ∀ (w : World) (nv kv : Value), Rd w S T nv kv → Calls Tryz.prog 76 #[tyV T.kind T.num nv kv] w fun e w' => e = .returned (i64 (T.count : Nat)) ∧ Below w.heap.size w w') :
    Calls Tryz.prog 76 #[tyV k n nv kv] w fun e w' => e = .returned (i64 ((Ty.mk k n names kids).count : Nat)) ∧ Below w.heap.size w w' := by
  have HIH := hid hih
  have HCN := hid hcnt
  have HRd : Hid (Rd w S (.mk k n names kids) nv kv) := hR
  obtain ⟨⟨an, cn, rfl, hnl, _, _⟩, hkl, ak, ck, rfl, _⟩ := hR.kid
  unfold maxLen at hnl hkl
  have HX : Hid ((w.alloc (.cells #[i64 k, i64 n, .slice an names.length cn, .slice ak kids.length ck] 64)).heap[w.heap.size]? = some (.cells #[i64 k, i64 n, .slice an names.length cn, .slice ak kids.length ck] 64)) := heap_last w _
  have HBV : Hid (Below w.heap.size w (w.alloc (.cells #[i64 k, i64 n, .slice an names.length cn, .slice ak kids.length ck] 64))) := below_one w _
  clear hR hih hcnt
  go_enter Tryz.func76, Tryz.ntmps76
  go_upto_region 1 with fail
  obtain ⟨Z, hZ⟩ : ∃ Z, Z = w.heap.size := ⟨_, rfl⟩
  rw [← hZ] at HX ⊢
  generalize w.alloc (.cells #[i64 k, i64 n, .slice an names.length cn, .slice ak kids.length ck] 64) = V at *
  have y0 : V.cell? ⟨Z, 0, none⟩ = some (i64 k) := blk_cell HX.out 0
  have y1 : V.cell? ⟨Z, 1, none⟩ = some (i64 n) := blk_cell HX.out 1
  have y2 : V.cell? ⟨Z, 2, none⟩ = some (.slice an names.length cn) := blk_cell HX.out 2
  have y3 : V.cell? ⟨Z, 3, none⟩ = some (.slice ak kids.length ck) := blk_cell HX.out 3
  have hZV : Z < V.heap.size := blk_lt HX.out
  have HZ := hid hZ
  clear hZ
  go_wp2_with fail
  go_loopw [3, 9] (fun a u wr => ∃ (i : Nat) (c : Nat), i ≤ kids.length ∧ u = i64 i ∧ a = i64 c ∧ c ≤ 30000001 ∧ Hid (c = 1 + countL (kids.take i)) ∧ Hid (Below w.heap.size w wr)) (fun a u _ => kids.length - (intOf u).toNat)
  case atStart => exact ⟨0, 1, by omega, rfl, rfl, by omega, by show _ = _; simp [countL], HBV⟩
  case round =>
    obtain ⟨i, c, hi, rfl, rfl, hc, HM, HB⟩ := hrel
    by_cases hlt : i < kids.length
    · have HCT := countL_take kids (i + 1)
      have HCT := hid HCT
      obtain ⟨_, _, ak1, ck1, he, hkid⟩ := (HRd.out.under HB.out).kid
      cases he
      obtain ⟨b, off, nv2, kv2, rfl, hbS, hblt, hr, hrd⟩ := hkid i hlt
      obtain ⟨T, hT⟩ : ∃ T, T = kids[i] := ⟨_, rfl⟩
      rw [← hT] at hr hrd
      have HTm : Hid (T ∈ kids) := by show _; rw [hT]; exact List.getElem_mem hlt
      have HTe : Hid (T = kids[i]) := hT
      have c0 : wr.cell? ⟨b, off + i * 4, none⟩ = some (i64 T.kind) := hr 0 _ rfl
      have c1 : wr.cell? ⟨b, off + i * 4 + 1, none⟩ = some (i64 T.num) := hr 1 _ rfl
      have c2 : wr.cell? ⟨b, off + i * 4 + 2, none⟩ = some nv2 := hr 2 _ rfl
      have c3 : wr.cell? ⟨b, off + i * 4 + 3, none⟩ = some kv2 := hr 3 _ rfl
      obtain ⟨an2, cn2, rfl, ak2, ck2, rfl⟩ := hrd.form
      have HX2 : Hid ((wr.alloc (.cells #[i64 T.kind, i64 T.num, .slice an2 T.names.length cn2, .slice ak2 T.kids.length ck2] 64)).heap[wr.heap.size]? = some (.cells #[i64 T.kind, i64 T.num, .slice an2 T.names.length cn2, .slice ak2 T.kids.length ck2] 64)) := heap_last wr _
      have HBX : Hid (Below wr.heap.size wr (wr.alloc (.cells #[i64 T.kind, i64 T.num, .slice an2 T.names.length cn2, .slice ak2 T.kids.length ck2] 64))) := below_one wr _
      have HRT : Hid (Rd (wr.alloc (.cells #[i64 T.kind, i64 T.num, .slice an2 T.names.length cn2, .slice ak2 T.kids.length ck2] 64)) _ T (.slice an2 T.names.length cn2) (.slice ak2 T.kids.length ck2)) := hrd.under HBX.out
      clear hT hr hrd hkid hbS
      go_upto_region 5 with fail
      obtain ⟨Y, hY⟩ : ∃ Y, Y = wr.heap.size := ⟨_, rfl⟩
      rw [← hY] at HX2 ⊢
      generalize wr.alloc (.cells #[i64 T.kind, i64 T.num, .slice an2 T.names.length cn2, .slice ak2 T.kids.length ck2] 64) = X at *
      have z0 : X.cell? ⟨Y, 0, none⟩ = some (i64 T.kind) := blk_cell HX2.out 0
      have z1 : X.cell? ⟨Y, 1, none⟩ = some (i64 T.num) := blk_cell HX2.out 1
      have z2 : X.cell? ⟨Y, 2, none⟩ = some (.slice an2 T.names.length cn2) := blk_cell HX2.out 2
      have z3 : X.cell? ⟨Y, 3, none⟩ = some (.slice ak2 T.kids.length ck2) := blk_cell HX2.out 3
      have hYX : Y < X.heap.size := blk_lt HX2.out
      have HY := hid hY
      clear c0 c1 c2 c3 hY
      go_wp2_with fail
      refine (HIH.out T HTm.out X _ _ HRT.out).mono ?_
      rintro e w3 ⟨rfl, hb3⟩
      have HB3 : Hid (Below w.heap.size w w3) := HB.out.trans ((HBX.out.trans (hb3.mono HBX.out.size)).mono HB.out.size)
      have htc : countL (kids.take (i + 1)) = countL (kids.take i) + T.count := by rw [HTe.out]; exact take_countL kids i hlt
      have hc2 : c + T.count ≤ 30000001 := by have := HM.out; have := HCT.out; have := HCN.out; omega
      have HM2 : Hid (c + T.count = 1 + countL (kids.take (i + 1))) := by show _ = _; rw [htc, HM.out]; omega
      clear htc hb3
      go_wp2_with fail
      exact ⟨⟨i + 1, c + T.count, by omega, by go_num, by go_num, hc2, HM2, HB3⟩, by simp [intOf]; omega⟩
    · have he : i = kids.length := by omega
      have HM3 : Hid (c = (Ty.mk k n names kids).count) := by
        show _ = _
        have := HM.out
        rw [he, List.take_of_length_le (Nat.le_refl _)] at this
        simp only [Ty.count]
        omega
      clear he
      go_wp2_with fail
      go_ret
      exact ⟨ret_int (by have := HM3.out; omega), HB.out⟩
set_option maxRecDepth 100000 in
set_option maxHeartbeats 3200000 in
theorem depth_in (k n : Int) (names : List Bs) (kids : List Ty) (w : World) (S : Nat → Prop) (nv kv : Value) (hR : Rd w S (.mk k n names kids) nv kv) (hcnt : countL kids ≤ 30000000)
    (hih : ∀ T ∈ kids, ∀ (w : World) (nv kv : Value), Rd w S T nv kv → Calls Tryz.prog 75 #[tyV T.kind T.num nv kv] w fun e w' => e = .returned (i64 (T.depth : Nat)) ∧ Below w.heap.size w w') :
    Calls Tryz.prog 75 #[tyV k n nv kv] w fun e w' => e = .returned (i64 ((Ty.mk k n names kids).depth : Nat)) ∧ Below w.heap.size w w' := by
  have HIH := hid hih
  have HCN := hid hcnt
  have HRd : Hid (Rd w S (.mk k n names kids) nv kv) := hR
  obtain ⟨⟨an, cn, rfl, hnl, _, _⟩, hkl, ak, ck, rfl, _⟩ := hR.kid
  unfold maxLen at hnl hkl
  have HX : Hid ((w.alloc (.cells #[i64 k, i64 n, .slice an names.length cn, .slice ak kids.length ck] 64)).heap[w.heap.size]? = some (.cells #[i64 k, i64 n, .slice an names.length cn, .slice ak kids.length ck] 64)) := heap_last w _
  have HBV : Hid (Below w.heap.size w (w.alloc (.cells #[i64 k, i64 n, .slice an names.length cn, .slice ak kids.length ck] 64))) := below_one w _
  clear hR hih hcnt
  go_enter Tryz.func75, Tryz.ntmps75
  go_upto_region 1 with fail
  obtain ⟨Z, hZ⟩ : ∃ Z, Z = w.heap.size := ⟨_, rfl⟩
  rw [← hZ] at HX ⊢
  generalize w.alloc (.cells #[i64 k, i64 n, .slice an names.length cn, .slice ak kids.length ck] 64) = V at *
  have y0 : V.cell? ⟨Z, 0, none⟩ = some (i64 k) := blk_cell HX.out 0
  have y1 : V.cell? ⟨Z, 1, none⟩ = some (i64 n) := blk_cell HX.out 1
  have y2 : V.cell? ⟨Z, 2, none⟩ = some (.slice an names.length cn) := blk_cell HX.out 2
  have y3 : V.cell? ⟨Z, 3, none⟩ = some (.slice ak kids.length ck) := blk_cell HX.out 3
  have hZV : Z < V.heap.size := blk_lt HX.out
  have HZ := hid hZ
  clear hZ
  go_wp2_with fail
  go_loopw [3, 10] (fun a u wr => ∃ (i : Nat) (c : Nat), i ≤ kids.length ∧ u = i64 i ∧ a = i64 c ∧ c ≤ 30000001 ∧ Hid (c = depthL (kids.take i)) ∧ Hid (Below w.heap.size w wr)) (fun a u _ => kids.length - (intOf u).toNat)
  case atStart => exact ⟨0, 0, by omega, rfl, rfl, by omega, by show _ = _; simp [depthL], HBV⟩
  case round =>
    obtain ⟨i, c, hi, rfl, rfl, hc, HM, HB⟩ := hrel
    by_cases hlt : i < kids.length
    · have HCT := countL_take kids (i + 1)
      have HCT := hid HCT
      obtain ⟨_, _, ak1, ck1, he, hkid⟩ := (HRd.out.under HB.out).kid
      cases he
      obtain ⟨b, off, nv2, kv2, rfl, hbS, hblt, hr, hrd⟩ := hkid i hlt
      obtain ⟨T, hT⟩ : ∃ T, T = kids[i] := ⟨_, rfl⟩
      rw [← hT] at hr hrd
      have HTm : Hid (T ∈ kids) := by show _; rw [hT]; exact List.getElem_mem hlt
      have HTe : Hid (T = kids[i]) := hT
      have c0 : wr.cell? ⟨b, off + i * 4, none⟩ = some (i64 T.kind) := hr 0 _ rfl
      have c1 : wr.cell? ⟨b, off + i * 4 + 1, none⟩ = some (i64 T.num) := hr 1 _ rfl
      have c2 : wr.cell? ⟨b, off + i * 4 + 2, none⟩ = some nv2 := hr 2 _ rfl
      have c3 : wr.cell? ⟨b, off + i * 4 + 3, none⟩ = some kv2 := hr 3 _ rfl
      obtain ⟨an2, cn2, rfl, ak2, ck2, rfl⟩ := hrd.form
      have HX2 : Hid ((wr.alloc (.cells #[i64 T.kind, i64 T.num, .slice an2 T.names.length cn2, .slice ak2 T.kids.length ck2] 64)).heap[wr.heap.size]? = some (.cells #[i64 T.kind, i64 T.num, .slice an2 T.names.length cn2, .slice ak2 T.kids.length ck2] 64)) := heap_last wr _
      have HBX : Hid (Below wr.heap.size wr (wr.alloc (.cells #[i64 T.kind, i64 T.num, .slice an2 T.names.length cn2, .slice ak2 T.kids.length ck2] 64))) := below_one wr _
      have HRT : Hid (Rd (wr.alloc (.cells #[i64 T.kind, i64 T.num, .slice an2 T.names.length cn2, .slice ak2 T.kids.length ck2] 64)) _ T (.slice an2 T.names.length cn2) (.slice ak2 T.kids.length ck2)) := hrd.under HBX.out
      clear hT hr hrd hkid hbS
      go_upto_region 5 with fail
      obtain ⟨Y, hY⟩ : ∃ Y, Y = wr.heap.size := ⟨_, rfl⟩
      rw [← hY] at HX2 ⊢
      generalize wr.alloc (.cells #[i64 T.kind, i64 T.num, .slice an2 T.names.length cn2, .slice ak2 T.kids.length ck2] 64) = X at *
      have z0 : X.cell? ⟨Y, 0, none⟩ = some (i64 T.kind) := blk_cell HX2.out 0
      have z1 : X.cell? ⟨Y, 1, none⟩ = some (i64 T.num) := blk_cell HX2.out 1
      have z2 : X.cell? ⟨Y, 2, none⟩ = some (.slice an2 T.names.length cn2) := blk_cell HX2.out 2
      have z3 : X.cell? ⟨Y, 3, none⟩ = some (.slice ak2 T.kids.length ck2) := blk_cell HX2.out 3
      have hYX : Y < X.heap.size := blk_lt HX2.out
      have HY := hid hY
      clear c0 c1 c2 c3 hY
      go_wp2_with fail
      refine (HIH.out T HTm.out X _ _ HRT.out).mono ?_
      rintro e w3 ⟨rfl, hb3⟩
      have HB3 : Hid (Below w.heap.size w w3) := HB.out.trans ((HBX.out.trans (hb3.mono HBX.out.size)).mono HB.out.size)
      have htc : depthL (kids.take (i + 1)) = max (depthL (kids.take i)) T.depth := by rw [HTe.out]; exact take_depthL kids i hlt
      have hd2 : T.depth ≤ 30000000 := by have h1 := depth_le T; have h2 := countL_mem HTm.out; have h3 := HCN.out; omega
      have HM2 : Hid (max c T.depth = depthL (kids.take (i + 1))) := by show _ = _; rw [htc, HM.out]
      generalize hE : T.depth = E at *
      clear htc hb3 hE
      by_cases hg : c < E
      · have HM4 : Hid (E = depthL (kids.take (i + 1))) := by show _ = _; rw [← HM2.out]; omega
        clear HM2
        go_wp2_with fail
        exact ⟨⟨i + 1, E, by omega, by go_num, by go_num, by omega, HM4, HB3⟩, by simp [intOf]; omega⟩
      · have HM4 : Hid (c = depthL (kids.take (i + 1))) := by show _ = _; rw [← HM2.out]; omega
        clear HM2
        go_wp2_with fail
        exact ⟨⟨i + 1, c, by omega, by go_num, by go_num, by omega, HM4, HB3⟩, by simp [intOf]; omega⟩
    · have he : i = kids.length := by omega
      have HM3 : Hid (1 + c = (Ty.mk k n names kids).depth) := by
        show _ = _
        have := HM.out
        rw [he, List.take_of_length_le (Nat.le_refl _)] at this
        simp only [Ty.depth]
        omega
      clear he
      go_wp2_with fail
      go_ret
      exact ⟨ret_int (by have := HM3.out; omega), HB.out⟩
theorem count_ok : ∀ (M : Nat) (T : Ty), T.count ≤ M → T.count ≤ 30000000 → ∀ (w : World) (S : Nat → Prop) (nv kv : Value), Rd w S T nv kv → Calls Tryz.prog 76 #[tyV T.kind T.num nv kv] w fun e w' => e = .returned (i64 (T.count : Nat)) ∧ Below w.heap.size w w'
  | 0, T, hM, _, _, _, _, _, _ => by have := count_pos T; omega
  | M + 1, .mk k n names kids, hM, hC, w, S, nv, kv, hR => by
    simp only [Ty.count] at hM hC
    exact count_in k n names kids w S nv kv hR (by omega) (fun T hT w nv kv hR => count_ok M T (by have := countL_mem hT; omega) (by have := countL_mem hT; omega) w S nv kv hR)
theorem depth_ok : ∀ (M : Nat) (T : Ty), T.count ≤ M → T.count ≤ 30000000 → ∀ (w : World) (S : Nat → Prop) (nv kv : Value), Rd w S T nv kv → Calls Tryz.prog 75 #[tyV T.kind T.num nv kv] w fun e w' => e = .returned (i64 (T.depth : Nat)) ∧ Below w.heap.size w w'
  | 0, T, hM, _, _, _, _, _, _ => by have := count_pos T; omega
  | M + 1, .mk k n names kids, hM, hC, w, S, nv, kv, hR => by
    simp only [Ty.count] at hM hC
    exact depth_in k n names kids w S nv kv hR (by omega) (fun T hT w nv kv hR => depth_ok M T (by have := countL_mem hT; omega) (by have := countL_mem hT; omega) w S nv kv hR)
end Go.Proofs.YtjppcfjjpkniaaaGreatDoor
