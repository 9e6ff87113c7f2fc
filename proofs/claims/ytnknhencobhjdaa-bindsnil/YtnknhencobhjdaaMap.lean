/- A map of bills, in the order of their laying: looked up, laid into, deleted from, ranged over; no statement is proved in this text. -/
import Derived.Test.YtnknhencobhjdaaBase
import Derived.Test.YtnknhencobhjdaaOrd
import Derived.Maps.RangeRun
namespace Go.Proofs.Ytnknhencobhjdaa
open Go.ChangeShapes Go.WideShapes Go.ChangeAt Go.RowKit Go.Deep Go.ChangeMaps Go.MapKept

/-- A handle: slot, generation. A bill: owner, payer. -/
abbrev Hn : Type := Int × Int
abbrev hV (h : Hn) : Value := .agg #[i64 h.1, i64 h.2]
abbrev Bl : Type := Hn × Hn
abbrev Ls : Type := List Bl
theorem hV_inj {a b : Hn} (h : hV a = hV b) : a = b := by
  simp at h
  exact Prod.ext h.1 h.2
theorem eqInt (d : Nat) (x y : Int) (w : World) : (Op.equalIn (d + 1) 3 (i64 x) (i64 y)).run Try.prog w = .ok (x == y) w := run_equalIn_int w d 3 .i64 .i64 x y Try.underlying3
theorem chk (em : Bool) (k : Hn) (w : World) : (Instr.checkKey em 10000 43 (hV k)).run Try.prog w = .ok () w := by kernel_rfl
theorem eql (a b : Hn) (w : World) : (Op.equal 43 (hV a) (hV b)).run Try.prog w = .ok (decide (a = b)) w := by
  unfold Op.equal Op.maxDepth
  rw [run_equalIn_struct w 9999 43 _ _ (by kernel_rfl) (by kernel_rfl)]
  have p0 : ∀ (x y : Int) (w : World), (part 3 #[i64 x, i64 y] 0).run Try.prog w = .ok (i64 x) w := fun x y w => by kernel_rfl
  have p1 : ∀ (x y : Int) (w : World), (part 3 #[i64 x, i64 y] 1).run Try.prog w = .ok (i64 y) w := fun x y w => by kernel_rfl
  have hq := eqInt 9998
  rcases a with ⟨a1, a2⟩
  rcases b with ⟨b1, b2⟩
  simp only [Program.fieldsOf, Try.underlying43]
  by_cases h1 : a1 = b1 <;> by_cases h2 : a2 = b2 <;> simp [Op.eqFields, p0, p1, hq, h1, h2, Result.andThen]
theorem zero104 (w : World) : (zeroValue 104).run Try.prog w = .ok (hV (0, 0)) w := by kernel_rfl

theorem asking (k : Hn) : ∀ (es : List MapEntry) (i : Nat) (w : World), (∀ x ∈ es, ∃ a, x.key = hV a) →
    ((Instr.findAsking 43 (hV k) es i).run Try.prog w = .ok none w ∧ ∀ x ∈ es, x.key ≠ hV k) ∨ ∃ j e, (Instr.findAsking 43 (hV k) es i).run Try.prog w = .ok (some (i + j, e.val)) w ∧ es[j]? = some e ∧ e.key = hV k
  | [], i, w, _ => Or.inl ⟨rfl, fun x hx => by cases hx⟩
  | x :: es, i, w, h => by
    obtain ⟨a, ha⟩ := h x (by simp)
    by_cases hk : k = a
    · subst hk
      refine Or.inr ⟨0, x, ?_, rfl, ha⟩
      simp [Instr.findAsking, ha, eql, Result.andThen]
    · rcases asking k es (i + 1) w (fun y hy => h y (by simp [hy])) with ⟨h1, h2⟩ | ⟨j, e, h1, h2, h3⟩
      · refine Or.inl ⟨?_, ?_⟩
        · simp [Instr.findAsking, ha, eql, hk, Result.andThen, h1]
        · intro y hy
          rcases List.mem_cons.1 hy with rfl | hy
          · rw [ha]; exact fun e => hk (hV_inj e).symm
          · exact h2 y hy
      · refine Or.inr ⟨j + 1, e, ?_, by simpa using h2, h3⟩
        simp [Instr.findAsking, ha, eql, hk, Result.andThen, h1]
        omega
theorem finds (k : Hn) (es : List MapEntry) (w : World) (h : ∀ x ∈ es, ∃ a, x.key = hV a) :
    ((Instr.findKey 43 (hV k) es).run Try.prog w = .ok none w ∧ ∀ x ∈ es, x.key ≠ hV k) ∨ ∃ j e, (Instr.findKey 43 (hV k) es).run Try.prog w = .ok (some (j, e.val)) w ∧ es[j]? = some e ∧ e.key = hV k := by
  cases es with
  | nil => exact Or.inl ⟨by simp [Instr.findKey, run_underlying Try.underlying43, Instr.findNow, Result.andThen], fun x hx => by cases hx⟩
  | cons x es =>
    have e1 : (Instr.findKey 43 (hV k) (x :: es)).run Try.prog w = (Instr.findAsking 43 (hV k) (x :: es) 0).run Try.prog w := by
      simp [Instr.findKey, run_underlying Try.underlying43, Instr.findNow, Instr.sameNow, Result.andThen]
    rw [e1]
    rcases asking k (x :: es) 0 w h with h1 | ⟨j, e, h1, h2, h3⟩
    · exact Or.inl h1
    · exact Or.inr ⟨j, e, by simpa using h1, h2, h3⟩

def kvE (x : MapEntry) : Value × Value := (x.key, x.val)
def kvB (p : Bl) : Value × Value := (hV p.1, hV p.2)
theorem kvB_inj {p q : Bl} (h : kvB p = kvB q) : p = q := by
  have h1 := congrArg Prod.fst h
  have h2 := congrArg Prod.snd h
  exact Prod.ext (hV_inj h1) (hV_inj h2)
def ND (L : Ls) : Prop := (L.map Prod.fst).Nodup
/-- The entries es, of this clock, are just L. -/
structure Good (es : List MapEntry) (clock : Nat) (L : Ls) : Prop where
  same : es.map kvE = L.map kvB
  nd : ND L
  old : ∀ x ∈ es, x.born < clock
  born : (es.map (·.born)).Nodup
theorem Good.key {es : List MapEntry} {c : Nat} {L : Ls} (h : Good es c L) {x : MapEntry} (hx : x ∈ es) : ∃ p ∈ L, x.key = hV p.1 ∧ x.val = hV p.2 := by
  have : kvE x ∈ L.map kvB := by rw [← h.same]; exact List.mem_map.2 ⟨x, hx, rfl⟩
  obtain ⟨p, hp, e⟩ := List.mem_map.1 this
  exact ⟨p, hp, (congrArg Prod.fst e).symm, (congrArg Prod.snd e).symm⟩
theorem Good.keys {es : List MapEntry} {c : Nat} {L : Ls} (h : Good es c L) : ∀ x ∈ es, ∃ a, x.key = hV a := fun x hx => by
  obtain ⟨p, _, e, _⟩ := h.key hx
  exact ⟨p.1, e⟩
def bil (L : Ls) (k : Hn) : Option Hn := (L.find? (fun p => decide (p.1 = k))).map (·.2)
theorem bil_none {L : Ls} {k : Hn} (h : ∀ p ∈ L, p.1 ≠ k) : bil L k = none := by
  unfold bil
  rw [List.find?_eq_none.2 (fun p hp => by simpa using h p hp)]
  rfl
theorem nd_cons {p : Bl} {L : Ls} (h : ND (p :: L)) : (∀ q ∈ L, q.1 ≠ p.1) ∧ ND L := by
  unfold ND at h ⊢
  rw [List.map_cons, List.nodup_cons] at h
  exact ⟨fun q hq e => h.1 (List.mem_map.2 ⟨q, hq, e⟩), h.2⟩
theorem bil_some : ∀ {L : Ls}, ND L → ∀ {p : Bl}, p ∈ L → bil L p.1 = some p.2
  | q :: L, h, p, hp => by
    obtain ⟨h1, h2⟩ := nd_cons h
    unfold bil
    rw [List.find?_cons]
    rcases List.mem_cons.1 hp with rfl | hp
    · simp
    · have : decide (q.1 = p.1) = false := decide_eq_false (fun e => h1 p hp e.symm)
      rw [this]
      exact bil_some h2 hp
theorem mem_of_bil {L : Ls} {k e : Hn} (h : bil L k = some e) : (k, e) ∈ L := by
  unfold bil at h
  cases hf : L.find? (fun p => decide (p.1 = k)) with
  | none => rw [hf] at h; cases h
  | some p =>
    rw [hf] at h
    have h1 := List.find?_some hf
    have h2 := List.mem_of_find?_eq_some hf
    simp at h h1
    obtain ⟨a, b⟩ := p
    simp at h h1
    subst h h1
    exact h2
theorem bil_eq_none {L : Ls} {k : Hn} (h : bil L k = none) : ∀ p ∈ L, p.1 ≠ k := by
  intro p hp e
  unfold bil at h
  cases hf : L.find? (fun p => decide (p.1 = k)) with
  | none => exact (by simpa using List.find?_eq_none.1 hf p hp : ¬ p.1 = k) e
  | some q => rw [hf] at h; cases h
theorem Good.at {es : List MapEntry} {c : Nat} {L : Ls} (h : Good es c L) {j : Nat} {x : MapEntry} (hj : es[j]? = some x) : ∃ p, L[j]? = some p ∧ x.key = hV p.1 ∧ x.val = hV p.2 := by
  have h1 : (es.map kvE)[j]? = some (kvE x) := by rw [List.getElem?_map, hj]; rfl
  rw [h.same, List.getElem?_map] at h1
  cases hl : L[j]? with
  | none => rw [hl] at h1; cases h1
  | some p =>
    rw [hl] at h1
    have h2 := Option.some.inj h1
    exact ⟨p, rfl, (congrArg Prod.fst h2).symm, (congrArg Prod.snd h2).symm⟩
theorem Good.no {es : List MapEntry} {c : Nat} {L : Ls} (h : Good es c L) {k : Hn} (hn : ∀ x ∈ es, x.key ≠ hV k) : ∀ p ∈ L, p.1 ≠ k := fun p hp e => by
  obtain ⟨j, hj, ej⟩ := List.getElem_of_mem hp
  have hl : es.length = L.length := by simpa using congrArg List.length h.same
  have hx := List.getElem?_eq_getElem (l := es) (i := j) (by omega)
  obtain ⟨q, hq, e1, _⟩ := h.at hx
  rw [List.getElem?_eq_getElem hj] at hq
  cases hq
  exact hn _ (List.getElem_mem _) (by rw [e1, ej, e])

/-- Block b is a map that holds just L. -/
def MapIs (w : World) (b : Nat) (L : Ls) : Prop := ∃ es clock, w.heap[b]? = some (.map es clock) ∧ Good es.toList clock L
theorem MapIs.lt {w : World} {b : Nat} {L : Ls} (h : MapIs w b L) : b < w.heap.size := by
  obtain ⟨es, clock, hb, _⟩ := h
  exact (Array.getElem?_eq_some_iff.1 hb).1
theorem MapIs.nd {w : World} {b : Nat} {L : Ls} (h : MapIs w b L) : ND L := by
  obtain ⟨es, clock, hb, g⟩ := h
  exact g.nd
theorem MapIs.kept {w w' : World} {b : Nat} {L : Ls} (h : MapIs w b L) (hb : w'.heap[b]? = w.heap[b]?) : MapIs w' b L := by
  obtain ⟨es, clock, h1, h2⟩ := h
  exact ⟨es, clock, hb.trans h1, h2⟩
theorem MapIs.made (w : World) : MapIs (w.alloc (.map #[] 0)) w.heap.size [] := ⟨#[], 0, heap_last w _, ⟨rfl, List.nodup_nil, by simp, by simp⟩⟩
def bilR (L : Ls) (k : Hn) (c : Bool) : Value := if c then .tuple #[hV ((bil L k).getD (0, 0)), .bool (bil L k).isSome] else hV ((bil L k).getD (0, 0))
theorem MapIs.lkup {w : World} {b : Nat} {L : Ls} (h : MapIs w b L) (k : Hn) (c : Bool) : (Instr.lookup 68 (.map (some b)) (hV k) c).run Try.prog w = .ok (bilR L k c) w := by
  obtain ⟨es, clock, hb, g⟩ := h
  rcases finds k es.toList w g.keys with ⟨f1, f2⟩ | ⟨j, e, f1, f2, f3⟩
  · have : bil L k = none := bil_none (g.no f2)
    unfold bilR
    rw [this]
    simp [Instr.lookup, run_underlying Try.underlying68, MapKept.run_getObj_map hb, chk, f1, Result.andThen]
    try (cases c <;> rfl)
  · obtain ⟨p, hp, e1, e2⟩ := g.at f2
    have hpk : p.1 = k := hV_inj (e1.symm.trans f3)
    have : bil L k = some p.2 := by rw [← hpk]; exact bil_some g.nd (List.mem_of_getElem? hp)
    unfold bilR
    rw [this]
    simp [Instr.lookup, run_underlying Try.underlying68, MapKept.run_getObj_map hb, chk, f1, e2, Result.andThen]
theorem look_nilmap (w : World) (k : Hn) (c : Bool) : (Instr.lookup 68 (.map none) (hV k) c).run Try.prog w = .ok (bilR [] k c) w := by
  have f1 : (Instr.findKey 43 (hV k) []).run Try.prog w = .ok none w := by
    rcases finds k [] w (fun x hx => by cases hx) with h | ⟨j, e, _, h, _⟩
    · exact h.1
    · simp at h
  simp [Instr.lookup, run_underlying Try.underlying68, chk, f1, Result.andThen, bilR, bil]
  try (cases c <;> rfl)
theorem touch_setBlock {w : World} {b : Nat} {o o' : Obj} (h : w.heap[b]? = some o) : Touch b w (setBlock w b o') :=
  ⟨rfl, rfl, rfl, by simp [setBlock], fun k _ hk => (heap_set (o' := o') h).2 k hk⟩
/-- A new key. -/
theorem MapIs.put {w : World} {b : Nat} {L : Ls} (h : MapIs w b L) (k e : Hn) (hn : ∀ p ∈ L, p.1 ≠ k) :
    ∃ w', (Instr.mapUpdate 68 (.map (some b)) (hV k) (hV e)).run Try.prog w = .ok () w' ∧ MapIs w' b (L ++ [(k, e)]) ∧ Touch b w w' ∧ w'.heap.size = w.heap.size := by
  obtain ⟨es, clock, hb, g⟩ := h
  rcases finds k es.toList w g.keys with ⟨f1, f2⟩ | ⟨j, e0, f1, f2, f3⟩
  · refine ⟨setBlock w b (.map (es.push ⟨hV k, hV e, clock⟩) (clock + 1)), ?_, ⟨_, _, heap_setBlock_same hb _, ?_, ?_, ?_, ?_⟩, touch_setBlock hb, by simp [setBlock]⟩
    · simp [Instr.mapUpdate, run_underlying Try.underlying68, MapKept.run_getObj_map hb, chk, f1, MapKept.run_setObj_map _ hb, Result.andThen, setBlock]
    · rw [Array.toList_push, List.map_append, List.map_append, g.same]
      rfl
    · unfold ND
      rw [List.map_append, List.nodup_append]
      refine ⟨g.nd, by simp, fun a ha c hc => ?_⟩
      obtain ⟨p, hp, rfl⟩ := List.mem_map.1 ha
      simp at hc
      subst hc
      exact hn p hp
    · intro x hx
      rw [Array.toList_push] at hx
      rcases List.mem_append.1 hx with hx | hx
      · have := g.old x hx
        omega
      · simp at hx
        subst hx
        simp
    · rw [Array.toList_push, List.map_append, List.nodup_append]
      refine ⟨g.born, by simp, fun a ha c hc => ?_⟩
      obtain ⟨x, hx, rfl⟩ := List.mem_map.1 ha
      simp at hc
      subst hc
      have := g.old x hx
      omega
  · obtain ⟨p, hp, e1, _⟩ := g.at f2
    exact absurd (hV_inj (e1.symm.trans f3)) (hn p (List.mem_of_getElem? hp))

/-- Block r is an iterator over map b, which holds L; M is still to come. -/
def It (w : World) (b r : Nat) (L M : Ls) : Prop := ∃ es clock since seen c0, w.heap[b]? = some (.map es clock) ∧ Good es.toList clock L ∧ w.heap[r]? = some (.mapIter (some b) since seen c0) ∧ (∀ x ∈ es.toList, x.born < since) ∧ since ≤ c0 ∧ since ≤ clock ∧ (leftOf es seen).toList.map kvE = M.map kvB
theorem It.map {w : World} {b r : Nat} {L M : Ls} (h : It w b r L M) : MapIs w b L := by
  obtain ⟨es, clock, since, seen, c0, hb, g, _⟩ := h
  exact ⟨es, clock, hb, g⟩
theorem It.kept {w w' : World} {b r : Nat} {L M : Ls} (h : It w b r L M) (hb : w'.heap[b]? = w.heap[b]?) (hr : w'.heap[r]? = w.heap[r]?) : It w' b r L M := by
  obtain ⟨es, clock, since, seen, c0, h1, h2, h3, h4⟩ := h
  exact ⟨es, clock, since, seen, c0, hb.trans h1, h2, hr.trans h3, h4⟩
theorem It.lt {w : World} {b r : Nat} {L M : Ls} (h : It w b r L M) : r < w.heap.size := by
  obtain ⟨es, clock, since, seen, c0, h1, h2, h3, h4⟩ := h
  exact blk_lt h3
theorem It.ne {w : World} {b r : Nat} {L M : Ls} (h : It w b r L M) : r ≠ b := by
  obtain ⟨es, clock, since, seen, c0, h1, h2, h3, h4⟩ := h
  intro e
  rw [e, h1] at h3
  cases h3
theorem MapIs.range {w : World} {b : Nat} {L : Ls} (h : MapIs w b L) : ∃ o, (Instr.range 68 (.map (some b))).run Try.prog w = .ok (.pointer (some ⟨w.heap.size, 0, none⟩)) (w.alloc o) ∧ It (w.alloc o) b w.heap.size L L := by
  have hlt := h.lt
  obtain ⟨es, clock, hb, g⟩ := h
  refine ⟨_, run_range_map w 68 43 104 b es clock Try.underlying68 hb, es, clock, clock, #[], clock, blk_alloc hb _, g, heap_last w _, g.old, Nat.le_refl _, Nat.le_refl _, ?_⟩
  rw [← g.same]
  refine congrArg (List.map kvE) ?_
  unfold leftOf
  rw [Array.toList_filter]
  exact List.filter_eq_self.2 (fun _ _ => by simp)
theorem erase_map {α β : Type} (f : α → β) : ∀ (l : List α) (j : Nat), (l.map f).eraseIdx j = (l.eraseIdx j).map f
  | [], _ => rfl
  | _ :: _, 0 => rfl
  | _ :: l, j + 1 => congrArg (_ :: ·) (erase_map f l j)
theorem filter_one {α : Type} (f : α → Nat) : ∀ (l : List α) (j : Nat) (e : α), (l.map f).Nodup → l[j]? = some e → l.filter (fun x => !(f x == f e)) = l.eraseIdx j
  | [], _, _, _, h => by simp at h
  | x :: l, 0, e, hn, h => by
    simp at h
    subst h
    rw [List.map_cons, List.nodup_cons] at hn
    rw [List.filter_cons]
    simp only [beq_self_eq_true, Bool.not_true, Bool.false_eq_true, if_false, List.eraseIdx_cons_zero]
    rw [List.filter_eq_self]
    intro y hy
    have : f y ≠ f x := fun he => hn.1 (he ▸ List.mem_map.2 ⟨y, hy, rfl⟩)
    simpa using this
  | x :: l, j + 1, e, hn, h => by
    rw [List.map_cons, List.nodup_cons] at hn
    have h' : l[j]? = some e := by simpa using h
    have hx : f x ≠ f e := fun he => hn.1 (he ▸ List.mem_map.2 ⟨e, List.mem_of_getElem? h', rfl⟩)
    rw [List.filter_cons, if_pos (by simpa using hx), filter_one f l j e hn.2 h', List.eraseIdx_cons_succ]
theorem It.next {w : World} {b r : Nat} {L M : Ls} (h : It w b r L M) (ty : TypeId) :
    (M = [] ∧ (Instr.next (.pointer (some ⟨r, 0, none⟩)) false ty).run Try.prog w = .ok (.tuple #[.bool false]) w) ∨
    ∃ j p w', M[j]? = some p ∧ p ∈ L ∧ (Instr.next (.pointer (some ⟨r, 0, none⟩)) false ty).run Try.prog w = .ok (.tuple #[.bool true, hV p.1, hV p.2]) w' ∧ It w' b r L (M.eraseIdx j) ∧ Touch r w w' ∧ w'.heap.size = w.heap.size ∧ (Instr.entry (.pointer (some ⟨r, 0, none⟩))).run Try.prog w' = .ok (.tuple #[hV p.1, hV p.2]) w' := by
  have hne := h.ne
  obtain ⟨es, clock, since, seen, c0, hb, g, hr, hold, hsc, hsk, hl⟩ := h
  rcases run_next_at (P := Try.prog) w ty r b since c0 seen es clock hr hb hold hsc with ⟨h0, hrun⟩ | ⟨e, he, w1, hal, hrun⟩
  · left
    refine ⟨?_, hrun⟩
    have : (leftOf es seen).toList = [] := by
      have : leftOf es seen = #[] := Array.eq_empty_of_size_eq_zero h0
      rw [this]
    rw [this] at hl
    simpa using hl.symm
  · right
    obtain ⟨hem, hes⟩ := mem_left he
    obtain ⟨j, hj, ej⟩ := List.getElem_of_mem he
    have hj' : (leftOf es seen).toList[j]? = some e := by rw [List.getElem?_eq_getElem hj, ej]
    have hM : (M.map kvB)[j]? = some (kvE e) := by rw [← hl, List.getElem?_map, hj']; rfl
    rw [List.getElem?_map] at hM
    cases hp : M[j]? with
    | none => rw [hp] at hM; cases hM
    | some p =>
      rw [hp] at hM
      have hpe := Option.some.inj hM
      have hk : hV p.1 = e.key := congrArg Prod.fst hpe
      have hv : hV p.2 = e.val := congrArg Prod.snd hpe
      have hr1 : w1.heap[r]? = some (.mapIter (some b) since seen c0) := by rcases hal with rfl | rfl <;> exact hr
      have hb1 : w1.heap[b]? = some (.map es clock) := by rcases hal with rfl | rfl <;> exact hb
      have hset := heap_set (o' := .mapIter (some b) since (seen.push e.born) clock) hr1
      have hb' : (setBlock w1 r (.mapIter (some b) since (seen.push e.born) clock)).heap[b]? = some (.map es clock) := (hset.2 b (fun e1 => hne e1.symm)).trans hb1
      have hpL : p ∈ L := by
        obtain ⟨q, hq, e1, e2⟩ := g.key hem
        have : p = q := Prod.ext (hV_inj (hk.trans e1)) (hV_inj (hv.trans e2))
        rw [this]
        exact hq
      have hen := run_entry_at (P := Try.prog) _ r b since seen es clock e hset.1 hb' hem g.born
      refine ⟨j, p, _, hp, hpL, by rw [hk, hv]; exact hrun, ⟨es, clock, since, seen.push e.born, clock, hb', g, hset.1, hold, hsk, hsk, ?_⟩, ?_, ?_, by rw [hk, hv]; exact hen⟩
      · have hnd : ((leftOf es seen).toList.map (·.born)).Nodup := by
          unfold leftOf
          rw [Array.toList_filter]
          exact g.born.sublist (List.filter_sublist.map _)
        have : (leftOf es (seen.push e.born)).toList = (leftOf es seen).toList.eraseIdx j := by
          rw [← filter_one (·.born) _ j e hnd hj']
          unfold leftOf
          rw [Array.toList_filter, Array.toList_filter, List.filter_filter]
          refine List.filter_congr fun x _ => ?_
          rw [contains_push]
          cases seen.contains x.born <;> cases (x.born == e.born) <;> rfl
        rw [this, ← erase_map, hl, erase_map]
      · rcases hal with rfl | rfl <;> exact ⟨rfl, rfl, rfl, by simp [setBlock], fun i _ hi => hset.2 i hi⟩
      · rcases hal with rfl | rfl <;> simp [setBlock]
theorem filter_erase {α : Type} (P : α → Bool) : ∀ (l : List α) (j : Nat) (e : α), l[j]? = some e → P e = false → (l.eraseIdx j).filter P = l.filter P
  | [], _, _, h, _ => by simp at h
  | x :: l, 0, e, h, hP => by
    simp at h
    subst h
    simp [hP]
  | x :: l, j + 1, e, h, hP => by
    rw [List.eraseIdx_cons_succ, List.filter_cons, List.filter_cons, filter_erase P l j e (by simpa using h) hP]
def dl (L : Ls) (k : Hn) : Ls := L.filter fun p => !decide (p.1 = k)
theorem erase_dl : ∀ {L : Ls} {j : Nat} {p : Bl}, ND L → L[j]? = some p → L.eraseIdx j = dl L p.1
  | [], _, _, _, h => by simp at h
  | x :: l, 0, p, hn, h => by
    simp at h
    subst h
    obtain ⟨h1, h2⟩ := nd_cons hn
    unfold dl
    rw [List.filter_cons]
    simp only [decide_true, Bool.not_true, Bool.false_eq_true, if_false, List.eraseIdx_cons_zero]
    exact (List.filter_eq_self.2 fun q hq => by simpa using h1 q hq).symm
  | x :: l, j + 1, p, hn, h => by
    obtain ⟨h1, h2⟩ := nd_cons hn
    have h' : l[j]? = some p := by simpa using h
    have : x.1 ≠ p.1 := fun e => h1 p (List.mem_of_getElem? h') e.symm
    rw [List.eraseIdx_cons_succ, erase_dl h2 h']
    unfold dl
    rw [List.filter_cons, if_pos (by simpa using this)]
theorem It.drop {w : World} {b r : Nat} {L M : Ls} (h : It w b r L M) (k : Hn) (hk : ∃ p ∈ L, p.1 = k) (hM : ∀ p ∈ M, p.1 ≠ k) :
    ∃ w', (∀ ty, (Builtin.delete_ #[68, 43] ty #[.map (some b), hV k]).run Try.prog w = .ok (.tuple #[]) w') ∧ It w' b r (dl L k) M ∧ Touch b w w' ∧ w'.heap.size = w.heap.size := by
  have hne := h.ne
  obtain ⟨es, clock, since, seen, c0, hb, g, hr, hold, hsc, hsk, hl⟩ := h
  rcases finds k es.toList w g.keys with ⟨f1, f2⟩ | ⟨j, e0, f1, f2, f3⟩
  · obtain ⟨p, hp, e⟩ := hk
    exact absurd e (g.no f2 p hp)
  · have hjl : j < es.toList.length := (List.getElem?_eq_some_iff.1 f2).1
    have hjs : j < es.size := by simpa using hjl
    have hsub : (es.eraseIdxIfInBounds j).toList = es.toList.eraseIdx j := by
      unfold Array.eraseIdxIfInBounds
      rw [dif_pos hjs]
      simp
    obtain ⟨p, hp, e1, e2⟩ := g.at f2
    have hpk : p.1 = k := hV_inj (e1.symm.trans f3)
    refine ⟨setBlock w b (.map (es.eraseIdxIfInBounds j) clock), ?_, ⟨_, clock, since, seen, c0, heap_setBlock_same hb _, ⟨?_, ?_, ?_, ?_⟩, ((heap_set hb).2 r hne).trans hr, ?_, hsc, hsk, ?_⟩, touch_setBlock hb, by simp [setBlock]⟩
    · intro ty
      simp [Builtin.delete_, run_underlying Try.underlying68, MapKept.run_getObj_map hb, chk, f1, MapKept.run_setObj_map _ hb, Result.andThen, setBlock]
    · rw [hsub, ← erase_map, g.same, erase_map, erase_dl g.nd hp, hpk]
    · unfold ND dl
      exact g.nd.sublist (List.filter_sublist.map _)
    · intro x hx
      rw [hsub] at hx
      exact g.old x ((List.eraseIdx_sublist _ _).subset hx)
    · rw [hsub, ← erase_map]
      exact g.born.sublist (List.eraseIdx_sublist _ _)
    · intro x hx
      rw [hsub] at hx
      exact hold x ((List.eraseIdx_sublist _ _).subset hx)
    · rw [← hl]
      refine congrArg (List.map kvE) ?_
      unfold leftOf
      rw [Array.toList_filter, Array.toList_filter, hsub]
      refine filter_erase _ _ j e0 f2 ?_
      cases hs : (!seen.contains e0.born) with
      | false => rfl
      | true =>
        exfalso
        have hm : e0 ∈ (leftOf es seen).toList := by
          unfold leftOf
          rw [Array.toList_filter]
          exact List.mem_filter.2 ⟨List.mem_of_getElem? f2, hs⟩
        have : kvE e0 ∈ M.map kvB := by rw [← hl]; exact List.mem_map.2 ⟨e0, hm, rfl⟩
        obtain ⟨q, hq, e⟩ := List.mem_map.1 this
        exact hM q hq (hV_inj ((congrArg Prod.fst e).trans f3))
end Go.Proofs.Ytnknhencobhjdaa
