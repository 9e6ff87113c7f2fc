/- A nil Binds: what it answers; no statement is proved in this text. -/
import Derived.Test.YtnknhencobhjdaaMap
import Derived.Maps.RangeWalk
import Derived.Test.YtnknhencobhjdaaCpDrops
import Derived.Test.YtnknhencobhjdaaQtNilWalk
namespace Go.Proofs.Ytnknhencobhjdaa
open Go.ChangeShapes Go.WideShapes Go.ChangeAt Go.RowKit Go.Deep Go.ChangeMaps Go.MapKept
open Go.Proofs.Ytnknhencobhjdaa.Cp (pq hid below_one hO cO zC looks_nil)
open Go.Proofs.Ytnknhencobhjdaa.Qt (zT badB)

section
variable {P : Program} {w : World} {ops : Array Oper} {rest : List Oper} {o : Oper} {a : Act} {Q : Exit → Act → World → Prop}
theorem wpList_range_run (hg : o.guard = none) (m : Operand) (t : TypeId) (hop : o.op = Op.range t m) (v : Value) (w' : World) (hrun : (Instr.range t (a.eval m)).run P w = .ok v w')
    (hK : wpList P ops Q rest (a.put o.dst v) w') : wpList P ops Q (o :: rest) a w := by
  refine wpList_plain hg fun K' hK' => ?_
  unfold Oper.wp
  simp [execOp, hop, hrun, Result.andThen]
  exact hK' _ _ hK
theorem wpList_next_run (hg : o.guard = none) (it : Operand) (hop : o.op = Op.next it false) (v : Value) (w' : World) (hrun : (Instr.next (a.eval it) false o.type).run P w = .ok v w')
    (hK : wpList P ops Q rest (a.put o.dst v) w') : wpList P ops Q (o :: rest) a w := by
  refine wpList_plain hg fun K' hK' => ?_
  unfold Oper.wp
  simp [execOp, hop, hrun, Result.andThen]
  exact hK' _ _ hK
end

abbrev emO : Obj := .cells #[.pointer none, .pointer none, .map none, .slice none 0 0, .slice none 0 0, .slice none 0 0] 71
set_option maxRecDepth 100000 in
theorem orEmpty_nil (w : World) : Calls Try.prog 48 #[.pointer none] w fun e w' => e = .returned (pq w.heap.size) ∧ w' = w.alloc emO := by
  go_enter Try.func48, Try.ntmps48
  go_wp2_with fail
  go_ret
  exact ⟨rfl, rfl⟩
theorem bel_one (w : World) (o : Obj) : Hid (Below w.heap.size w (w.alloc o)) := below_one w o
theorem bel_two (w : World) (o p : Obj) : Hid (Below w.heap.size w ((w.alloc o).alloc p)) := (below_one w _).trans ((below_one _ _).mono (by simp))
theorem bel_three (w : World) (o p q : Obj) : Hid (Below w.heap.size w (((w.alloc o).alloc p).alloc q)) := (bel_two w o p).out.trans ((below_one _ _).mono (by simp; omega))
theorem bel_then {w V W : World} (h : Hid (Below w.heap.size w V)) (k : Below V.heap.size V W) : Hid (Below w.heap.size w W) := h.out.trans (k.mono h.out.size)

theorem below_drew {w W : World} (h : Below w.drew.heap.size w.drew W) : Below w.heap.size w W := ⟨h.os, h.tape, h.output, h.size, h.block⟩
/-- Two blocks. -/
structure Sq2 (p : Nat) (P : Obj) (q : Nat) (Q : Obj) (W : World) : Prop where
  one : W.heap[p]? = some P
  two : W.heap[q]? = some Q
theorem Sq2.below {p q : Nat} {P Q : Obj} {W W' : World} (h : Sq2 p P q Q W) (hb : Below W.heap.size W W') : Sq2 p P q Q W' := ⟨blk_below h.one hb, blk_below h.two hb⟩
theorem Sq2.set4 {p q : Nat} {P Q : Obj} {W : World} (h : Sq2 p P q Q W) {Z : Nat} (hp : p ≠ Z) (hq : q ≠ Z) (c : Cp.Cp) : Sq2 p P q Q ((((W.setCell ⟨Z, 0, none⟩ (i64 c.env)).setCell ⟨Z, 1, none⟩ (i64 c.kind)).setCell ⟨Z, 2, none⟩ (i64 c.num)).setCell ⟨Z, 3, none⟩ (i64 c.rts)) := by
  obtain ⟨h1, h2⟩ := h
  constructor
  · rw [Below.heap_setCell _ _ _ _ (by exact hp), Below.heap_setCell _ _ _ _ (by exact hp), Below.heap_setCell _ _ _ _ (by exact hp), Below.heap_setCell _ _ _ _ (by exact hp)]; exact h1
  · rw [Below.heap_setCell _ _ _ _ (by exact hq), Below.heap_setCell _ _ _ _ (by exact hq), Below.heap_setCell _ _ _ _ (by exact hq), Below.heap_setCell _ _ _ _ (by exact hq)]; exact h2
abbrev bdO (vb vt vm s0 s1 s2 : Value) : Obj := .cells #[vb, vt, vm, s0, s1, s2] 71
/-- What orEmpty makes of v0. -/
def Ent (w : World) (v0 : Value) (O : Obj) : Prop := ∀ W, Below w.heap.size w W → Calls Try.prog 48 #[v0] W fun e w' => ∃ B, e = .returned (pq B) ∧ Below W.heap.size W w' ∧ w'.heap[B]? = some O
theorem ent_nil (w : World) : Ent w (.pointer none) emO := fun W _ => (orEmpty_nil W).mono fun e w' ⟨he, hw⟩ => ⟨_, he, by rw [hw]; exact below_one W _, by rw [hw]; exact heap_last W _⟩
set_option maxRecDepth 100000 in
theorem bclose_nil (w : World) (env : Int) : Calls Try.prog 22 #[.pointer none, i64 env] w fun e w' => e = .returned (i64 6) ∧ Below w.heap.size w w' := by
  have HB := bel_one w emO
  go_enter Try.func22, Try.ntmps22
  go_wp2_with (first | (go_at_call 48; refine (orEmpty_nil _).mono ?_; rintro e w1 ⟨rfl, rfl⟩) | (go_at_call 59; refine (Qt.close_nil _ env).mono ?_; rintro e w1 ⟨rfl, rfl⟩))
  go_ret
  exact ⟨rfl, HB.out⟩
set_option maxRecDepth 100000 in
theorem bopen_nil (w : World) (env : Int) (q : Qt.T) : Calls Try.prog 18 #[.pointer none, i64 env, q.v] w fun e w' => e = .returned (i64 (if badB env q = true then 1 else 7)) ∧ Below w.heap.size w w' := by
  obtain ⟨q0, q1, q2⟩ := q
  have HB := bel_two w (.cells #[i64 q0, i64 q1, i64 q2] 22) emO
  have HO : Hid (∀ W, Calls Try.prog 53 #[.pointer none, i64 env, .agg #[i64 q0, i64 q1, i64 q2]] W fun e w' => e = .returned (i64 (if badB env ⟨q0, q1, q2⟩ = true then 1 else 7)) ∧ Below W.heap.size W w') := fun W => Qt.open_nil_ok W env ⟨q0, q1, q2⟩
  generalize (if badB env ⟨q0, q1, q2⟩ = true then (1 : Int) else 7) = X at *
  go_enter Try.func18, Try.ntmps18
  go_upto_region 1 with fail
  go_region_with (first | (go_at_call 48; refine (orEmpty_nil _).mono ?_; rintro e w1 ⟨rfl, rfl⟩) | (go_at_call 53; refine (HO.out _).mono ?_; rintro e w2 ⟨rfl, hb⟩))
  all_goals
    have H2 : Hid (Below w.heap.size w w2) := bel_then HB (below_drew hb)
    clear hb
    go_wp2_with fail
    go_ret
    exact ⟨rfl, H2.out⟩
end Go.Proofs.Ytnknhencobhjdaa
