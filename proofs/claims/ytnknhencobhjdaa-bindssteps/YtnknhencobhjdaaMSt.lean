/- No statement here. -/
import Derived.Maps.RangeRun
import Derived.Maps.RangeWalk
import Derived.Test.YtnknhencobhjdaaMBase
import Derived.Test.YtnknhencobhjdaaMOrd2
import Derived.Test.YtnknhencobhjdaaMCpDrops
import Derived.Test.YtnknhencobhjdaaMQtNilWalk
set_option maxRecDepth 100000
namespace Go.Proofs.Ytnknhencobhjdaa
open Go.ChangeShapes Go.WideShapes Go.ChangeAt Go.RowKit Go.Deep Go.ChangeMaps Go.MapKept
abbrev Hn : Type := Int × Int
abbrev hV (h : Hn) : Value := .agg #[i64 h.1, i64 h.2]
abbrev Bl : Type := Hn × Hn
abbrev Ls : Type := List Bl
theorem hV_inj {a b : Hn} (h : hV a = hV b) : a = b := by
  simp at h
  exact Prod.ext h.1 h.2
theorem eqInt (d : Nat) (x y : Int) (w : World) : (Op.equalIn (d + 1) 3 (i64 x) (i64 y)).run Try.prog w = .ok (x == y) w := run_equalIn_int w d 3 .i64 .i64 x y Try.underlying3
theorem chk (em : Bool) (k : Hn) (w : World) : (Instr.checkKey em 10000 43 (hV k)).run Try.prog w = .ok () w := by kernel_rfl
theorem eql (a b : Hn) (w : World) : (Op.equal 43 (hV a) (hV b)).run Try.prog w = .ok (decide (a = b)) w := by
  unfold Op.equal Op.maxDepth
  rw [run_equalIn_struct w 9999 43 _ _ (by kernel_rfl) (by kernel_rfl)]
  have p0 : ∀ (x y : Int) (w : World), (part 3 #[i64 x, i64 y] 0).run Try.prog w = .ok (i64 x) w := fun x y w => by kernel_rfl
  have p1 : ∀ (x y : Int) (w : World), (part 3 #[i64 x, i64 y] 1).run Try.prog w = .ok (i64 y) w := fun x y w => by kernel_rfl
  have hq := eqInt 9998
  rcases a with ⟨a1, a2⟩
  rcases b with ⟨b1, b2⟩
  simp only [Program.fieldsOf, Try.underlying43]
  by_cases h1 : a1 = b1 <;> by_cases h2 : a2 = b2 <;> simp [Op.eqFields, p0, p1, hq, h1, h2, Result.andThen]
theorem asking (k : Hn) : ∀ (es : List MapEntry) (i : Nat) (w : World), (∀ x ∈ es, ∃ a, x.key = hV a) →
    ((Instr.findAsking 43 (hV k) es i).run Try.prog w = .ok none w ∧ ∀ x ∈ es, x.key ≠ hV k) ∨ ∃ j e, (Instr.findAsking 43 (hV k) es i).run Try.prog w = .ok (some (i + j, e.val)) w ∧ es[j]? = some e ∧ e.key = hV k
  | [], i, w, _ => Or.inl ⟨rfl, fun x hx => by cases hx⟩
  | x :: es, i, w, h => by
    obtain ⟨a, ha⟩ := h x (by simp)
    by_cases hk : k = a
    · subst hk
      refine Or.inr ⟨0, x, ?_, rfl, ha⟩
      simp [Instr.findAsking, ha, eql, Result.andThen]
    · rcases asking k es (i + 1) w (fun y hy => h y (by simp [hy])) with ⟨h1, h2⟩ | ⟨j, e, h1, h2, h3⟩
      · refine Or.inl ⟨?_, ?_⟩
        · simp [Instr.findAsking, ha, eql, hk, Result.andThen, h1]
        · intro y hy
          rcases List.mem_cons.1 hy with rfl | hy
          · rw [ha]; exact fun e => hk (hV_inj e).symm
          · exact h2 y hy
      · refine Or.inr ⟨j + 1, e, ?_, by simpa using h2, h3⟩
        simp [Instr.findAsking, ha, eql, hk, Result.andThen, h1]
        omega
theorem finds (k : Hn) (es : List MapEntry) (w : World) (h : ∀ x ∈ es, ∃ a, x.key = hV a) :
    ((Instr.findKey 43 (hV k) es).run Try.prog w = .ok none w ∧ ∀ x ∈ es, x.key ≠ hV k) ∨ ∃ j e, (Instr.findKey 43 (hV k) es).run Try.prog w = .ok (some (j, e.val)) w ∧ es[j]? = some e ∧ e.key = hV k := by
  cases es with
  | nil => exact Or.inl ⟨by simp [Instr.findKey, run_underlying Try.underlying43, Instr.findNow, Result.andThen], fun x hx => by cases hx⟩
  | cons x es =>
    have e1 : (Instr.findKey 43 (hV k) (x :: es)).run Try.prog w = (Instr.findAsking 43 (hV k) (x :: es) 0).run Try.prog w := by
      simp [Instr.findKey, run_underlying Try.underlying43, Instr.findNow, Instr.sameNow, Result.andThen]
    rw [e1]
    rcases asking k (x :: es) 0 w h with h1 | ⟨j, e, h1, h2, h3⟩
    · exact Or.inl h1
    · exact Or.inr ⟨j, e, by simpa using h1, h2, h3⟩
def kvE (x : MapEntry) : Value × Value := (x.key, x.val)
def kvB (p : Bl) : Value × Value := (hV p.1, hV p.2)
theorem kvB_inj {p q : Bl} (h : kvB p = kvB q) : p = q := by
  have h1 := congrArg Prod.fst h
  have h2 := congrArg Prod.snd h
  exact Prod.ext (hV_inj h1) (hV_inj h2)
def ND (L : Ls) : Prop := (L.map Prod.fst).Nodup
structure Good (es : List MapEntry) (clock : Nat) (L : Ls) : Prop where
  same : es.map kvE = L.map kvB
  nd : ND L
  old : ∀ x ∈ es, x.born < clock
  born : (es.map (·.born)).Nodup
theorem Good.key {es : List MapEntry} {c : Nat} {L : Ls} (h : Good es c L) {x : MapEntry} (hx : x ∈ es) : ∃ p ∈ L, x.key = hV p.1 ∧ x.val = hV p.2 := by
  have : kvE x ∈ L.map kvB := by rw [← h.same]; exact List.mem_map.2 ⟨x, hx, rfl⟩
  obtain ⟨p, hp, e⟩ := List.mem_map.1 this
  exact ⟨p, hp, (congrArg Prod.fst e).symm, (congrArg Prod.snd e).symm⟩
theorem Good.keys {es : List MapEntry} {c : Nat} {L : Ls} (h : Good es c L) : ∀ x ∈ es, ∃ a, x.key = hV a := fun x hx => by
  obtain ⟨p, _, e, _⟩ := h.key hx
  exact ⟨p.1, e⟩
def bil (L : Ls) (k : Hn) : Option Hn := (L.find? (fun p => decide (p.1 = k))).map (·.2)
theorem bil_none {L : Ls} {k : Hn} (h : ∀ p ∈ L, p.1 ≠ k) : bil L k = none := by
  unfold bil
  rw [List.find?_eq_none.2 (fun p hp => by simpa using h p hp)]
  rfl
theorem nd_cons {p : Bl} {L : Ls} (h : ND (p :: L)) : (∀ q ∈ L, q.1 ≠ p.1) ∧ ND L := by
  unfold ND at h ⊢
  rw [List.map_cons, List.nodup_cons] at h
  exact ⟨fun q hq e => h.1 (List.mem_map.2 ⟨q, hq, e⟩), h.2⟩
theorem bil_some : ∀ {L : Ls}, ND L → ∀ {p : Bl}, p ∈ L → bil L p.1 = some p.2
  | q :: L, h, p, hp => by
    obtain ⟨h1, h2⟩ := nd_cons h
    unfold bil
    rw [List.find?_cons]
    rcases List.mem_cons.1 hp with rfl | hp
    · simp
    · have : decide (q.1 = p.1) = false := decide_eq_false (fun e => h1 p hp e.symm)
      rw [this]
      exact bil_some h2 hp
theorem mem_of_bil {L : Ls} {k e : Hn} (h : bil L k = some e) : (k, e) ∈ L := by
  unfold bil at h
  cases hf : L.find? (fun p => decide (p.1 = k)) with
  | none => rw [hf] at h; cases h
  | some p =>
    rw [hf] at h
    have h1 := List.find?_some hf
    have h2 := List.mem_of_find?_eq_some hf
    simp at h h1
    obtain ⟨a, b⟩ := p
    simp at h h1
    subst h h1
    exact h2
theorem Good.at {es : List MapEntry} {c : Nat} {L : Ls} (h : Good es c L) {j : Nat} {x : MapEntry} (hj : es[j]? = some x) : ∃ p, L[j]? = some p ∧ x.key = hV p.1 ∧ x.val = hV p.2 := by
  have h1 : (es.map kvE)[j]? = some (kvE x) := by rw [List.getElem?_map, hj]; rfl
  rw [h.same, List.getElem?_map] at h1
  cases hl : L[j]? with
  | none => rw [hl] at h1; cases h1
  | some p =>
    rw [hl] at h1
    have h2 := Option.some.inj h1
    exact ⟨p, rfl, (congrArg Prod.fst h2).symm, (congrArg Prod.snd h2).symm⟩
theorem Good.no {es : List MapEntry} {c : Nat} {L : Ls} (h : Good es c L) {k : Hn} (hn : ∀ x ∈ es, x.key ≠ hV k) : ∀ p ∈ L, p.1 ≠ k := fun p hp e => by
  obtain ⟨j, hj, ej⟩ := List.getElem_of_mem hp
  have hl : es.length = L.length := by simpa using congrArg List.length h.same
  have hx := List.getElem?_eq_getElem (l := es) (i := j) (by omega)
  obtain ⟨q, hq, e1, _⟩ := h.at hx
  rw [List.getElem?_eq_getElem hj] at hq
  cases hq
  exact hn _ (List.getElem_mem _) (by rw [e1, ej, e])
def MapIs (w : World) (b : Nat) (L : Ls) : Prop := ∃ es clock, w.heap[b]? = some (.map es clock) ∧ Good es.toList clock L
theorem MapIs.lt {w : World} {b : Nat} {L : Ls} (h : MapIs w b L) : b < w.heap.size := by
  obtain ⟨es, clock, hb, _⟩ := h
  exact (Array.getElem?_eq_some_iff.1 hb).1
theorem MapIs.nd {w : World} {b : Nat} {L : Ls} (h : MapIs w b L) : ND L := by
  obtain ⟨es, clock, hb, g⟩ := h
  exact g.nd
theorem MapIs.kept {w w' : World} {b : Nat} {L : Ls} (h : MapIs w b L) (hb : w'.heap[b]? = w.heap[b]?) : MapIs w' b L := by
  obtain ⟨es, clock, h1, h2⟩ := h
  exact ⟨es, clock, hb.trans h1, h2⟩
theorem MapIs.made (w : World) : MapIs (w.alloc (.map #[] 0)) w.heap.size [] := ⟨#[], 0, hlx w _, ⟨rfl, List.nodup_nil, by simp, by simp⟩⟩
def bilR (L : Ls) (k : Hn) (c : Bool) : Value := if c then .tuple #[hV ((bil L k).getD (0, 0)), .bool (bil L k).isSome] else hV ((bil L k).getD (0, 0))
theorem MapIs.lkup {w : World} {b : Nat} {L : Ls} (h : MapIs w b L) (k : Hn) (c : Bool) : (Instr.lookup 68 (.map (some b)) (hV k) c).run Try.prog w = .ok (bilR L k c) w := by
  obtain ⟨es, clock, hb, g⟩ := h
  rcases finds k es.toList w g.keys with ⟨f1, f2⟩ | ⟨j, e, f1, f2, f3⟩
  · have : bil L k = none := bil_none (g.no f2)
    unfold bilR
    rw [this]
    simp [Instr.lookup, run_underlying Try.underlying68, MapKept.run_getObj_map hb, chk, f1, Result.andThen]
    try (cases c <;> rfl)
  · obtain ⟨p, hp, e1, e2⟩ := g.at f2
    have hpk : p.1 = k := hV_inj (e1.symm.trans f3)
    have : bil L k = some p.2 := by rw [← hpk]; exact bil_some g.nd (List.mem_of_getElem? hp)
    unfold bilR
    rw [this]
    simp [Instr.lookup, run_underlying Try.underlying68, MapKept.run_getObj_map hb, chk, f1, e2, Result.andThen]
theorem touch_setBlock {w : World} {b : Nat} {o o' : Obj} (h : w.heap[b]? = some o) : Touch b w (setBlock w b o') :=
  ⟨rfl, rfl, rfl, by simp [setBlock], fun k _ hk => (heap_set (o' := o') h).2 k hk⟩
theorem MapIs.put {w : World} {b : Nat} {L : Ls} (h : MapIs w b L) (k e : Hn) (hn : ∀ p ∈ L, p.1 ≠ k) :
    ∃ w', (Instr.mapUpdate 68 (.map (some b)) (hV k) (hV e)).run Try.prog w = .ok () w' ∧ MapIs w' b (L ++ [(k, e)]) ∧ Touch b w w' ∧ w'.heap.size = w.heap.size := by
  obtain ⟨es, clock, hb, g⟩ := h
  rcases finds k es.toList w g.keys with ⟨f1, f2⟩ | ⟨j, e0, f1, f2, f3⟩
  · refine ⟨setBlock w b (.map (es.push ⟨hV k, hV e, clock⟩) (clock + 1)), ?_, ⟨_, _, heap_setBlock_same hb _, ?_, ?_, ?_, ?_⟩, touch_setBlock hb, by simp [setBlock]⟩
    · simp [Instr.mapUpdate, run_underlying Try.underlying68, MapKept.run_getObj_map hb, chk, f1, MapKept.run_setObj_map _ hb, Result.andThen, setBlock]
    · rw [Array.toList_push, List.map_append, List.map_append, g.same]
      rfl
    · unfold ND
      rw [List.map_append, List.nodup_append]
      refine ⟨g.nd, by simp, fun a ha c hc => ?_⟩
      obtain ⟨p, hp, rfl⟩ := List.mem_map.1 ha
      simp at hc
      subst hc
      exact hn p hp
    · intro x hx
      rw [Array.toList_push] at hx
      rcases List.mem_append.1 hx with hx | hx
      · have := g.old x hx
        omega
      · simp at hx
        subst hx
        simp
    · rw [Array.toList_push, List.map_append, List.nodup_append]
      refine ⟨g.born, by simp, fun a ha c hc => ?_⟩
      obtain ⟨x, hx, rfl⟩ := List.mem_map.1 ha
      simp at hc
      subst hc
      have := g.old x hx
      omega
  · obtain ⟨p, hp, e1, _⟩ := g.at f2
    exact absurd (hV_inj (e1.symm.trans f3)) (hn p (List.mem_of_getElem? hp))
def It (w : World) (b r : Nat) (L M : Ls) : Prop := ∃ es clock since seen c0, w.heap[b]? = some (.map es clock) ∧ Good es.toList clock L ∧ w.heap[r]? = some (.mapIter (some b) since seen c0) ∧ (∀ x ∈ es.toList, x.born < since) ∧ since ≤ c0 ∧ since ≤ clock ∧ (leftOf es seen).toList.map kvE = M.map kvB
theorem It.map {w : World} {b r : Nat} {L M : Ls} (h : It w b r L M) : MapIs w b L := by
  obtain ⟨es, clock, since, seen, c0, hb, g, _⟩ := h
  exact ⟨es, clock, hb, g⟩
theorem It.kept {w w' : World} {b r : Nat} {L M : Ls} (h : It w b r L M) (hb : w'.heap[b]? = w.heap[b]?) (hr : w'.heap[r]? = w.heap[r]?) : It w' b r L M := by
  obtain ⟨es, clock, since, seen, c0, h1, h2, h3, h4⟩ := h
  exact ⟨es, clock, since, seen, c0, hb.trans h1, h2, hr.trans h3, h4⟩
theorem It.lt {w : World} {b r : Nat} {L M : Ls} (h : It w b r L M) : r < w.heap.size := by
  obtain ⟨es, clock, since, seen, c0, h1, h2, h3, h4⟩ := h
  exact blk_lt h3
theorem It.ne {w : World} {b r : Nat} {L M : Ls} (h : It w b r L M) : r ≠ b := by
  obtain ⟨es, clock, since, seen, c0, h1, h2, h3, h4⟩ := h
  intro e
  rw [e, h1] at h3
  cases h3
theorem MapIs.range {w : World} {b : Nat} {L : Ls} (h : MapIs w b L) : ∃ o, (Instr.range 68 (.map (some b))).run Try.prog w = .ok (.pointer (some ⟨w.heap.size, 0, none⟩)) (w.alloc o) ∧ It (w.alloc o) b w.heap.size L L := by
  have hlt := h.lt
  obtain ⟨es, clock, hb, g⟩ := h
  refine ⟨_, run_range_map w 68 43 104 b es clock Try.underlying68 hb, es, clock, clock, #[], clock, bka hb _, g, hlx w _, g.old, Nat.le_refl _, Nat.le_refl _, ?_⟩
  rw [← g.same]
  refine congrArg (List.map kvE) ?_
  unfold leftOf
  rw [Array.toList_filter]
  exact List.filter_eq_self.2 (fun _ _ => by simp)
theorem erase_map {α β : Type} (f : α → β) : ∀ (l : List α) (j : Nat), (l.map f).eraseIdx j = (l.eraseIdx j).map f
  | [], _ => rfl
  | _ :: _, 0 => rfl
  | _ :: l, j + 1 => congrArg (_ :: ·) (erase_map f l j)
theorem filter_one {α : Type} (f : α → Nat) : ∀ (l : List α) (j : Nat) (e : α), (l.map f).Nodup → l[j]? = some e → l.filter (fun x => !(f x == f e)) = l.eraseIdx j
  | [], _, _, _, h => by simp at h
  | x :: l, 0, e, hn, h => by
    simp at h
    subst h
    rw [List.map_cons, List.nodup_cons] at hn
    rw [List.filter_cons]
    simp only [beq_self_eq_true, Bool.not_true, Bool.false_eq_true, if_false, List.eraseIdx_cons_zero]
    rw [List.filter_eq_self]
    intro y hy
    have : f y ≠ f x := fun he => hn.1 (he ▸ List.mem_map.2 ⟨y, hy, rfl⟩)
    simpa using this
  | x :: l, j + 1, e, hn, h => by
    rw [List.map_cons, List.nodup_cons] at hn
    have h' : l[j]? = some e := by simpa using h
    have hx : f x ≠ f e := fun he => hn.1 (he ▸ List.mem_map.2 ⟨e, List.mem_of_getElem? h', rfl⟩)
    rw [List.filter_cons, if_pos (by simpa using hx), filter_one f l j e hn.2 h', List.eraseIdx_cons_succ]
theorem It.next {w : World} {b r : Nat} {L M : Ls} (h : It w b r L M) (ty : TypeId) :
    (M = [] ∧ (Instr.next (.pointer (some ⟨r, 0, none⟩)) false ty).run Try.prog w = .ok (.tuple #[.bool false]) w) ∨
    ∃ j p w', M[j]? = some p ∧ p ∈ L ∧ (Instr.next (.pointer (some ⟨r, 0, none⟩)) false ty).run Try.prog w = .ok (.tuple #[.bool true, hV p.1, hV p.2]) w' ∧ It w' b r L (M.eraseIdx j) ∧ Touch r w w' ∧ w'.heap.size = w.heap.size ∧ (Instr.entry (.pointer (some ⟨r, 0, none⟩))).run Try.prog w' = .ok (.tuple #[hV p.1, hV p.2]) w' := by
  have hne := h.ne
  obtain ⟨es, clock, since, seen, c0, hb, g, hr, hold, hsc, hsk, hl⟩ := h
  rcases run_next_at (P := Try.prog) w ty r b since c0 seen es clock hr hb hold hsc with ⟨h0, hrun⟩ | ⟨e, he, w1, hal, hrun⟩
  · left
    refine ⟨?_, hrun⟩
    have : (leftOf es seen).toList = [] := by
      have : leftOf es seen = #[] := Array.eq_empty_of_size_eq_zero h0
      rw [this]
    rw [this] at hl
    simpa using hl.symm
  · right
    obtain ⟨hem, hes⟩ := mem_left he
    obtain ⟨j, hj, ej⟩ := List.getElem_of_mem he
    have hj' : (leftOf es seen).toList[j]? = some e := by rw [List.getElem?_eq_getElem hj, ej]
    have hM : (M.map kvB)[j]? = some (kvE e) := by rw [← hl, List.getElem?_map, hj']; rfl
    rw [List.getElem?_map] at hM
    cases hp : M[j]? with
    | none => rw [hp] at hM; cases hM
    | some p =>
      rw [hp] at hM
      have hpe := Option.some.inj hM
      have hk : hV p.1 = e.key := congrArg Prod.fst hpe
      have hv : hV p.2 = e.val := congrArg Prod.snd hpe
      have hr1 : w1.heap[r]? = some (.mapIter (some b) since seen c0) := by rcases hal with rfl | rfl <;> exact hr
      have hb1 : w1.heap[b]? = some (.map es clock) := by rcases hal with rfl | rfl <;> exact hb
      have hset := heap_set (o' := .mapIter (some b) since (seen.push e.born) clock) hr1
      have hb' : (setBlock w1 r (.mapIter (some b) since (seen.push e.born) clock)).heap[b]? = some (.map es clock) := (hset.2 b (fun e1 => hne e1.symm)).trans hb1
      have hpL : p ∈ L := by
        obtain ⟨q, hq, e1, e2⟩ := g.key hem
        have : p = q := Prod.ext (hV_inj (hk.trans e1)) (hV_inj (hv.trans e2))
        rw [this]
        exact hq
      have hen := run_entry_at (P := Try.prog) _ r b since seen es clock e hset.1 hb' hem g.born
      refine ⟨j, p, _, hp, hpL, by rw [hk, hv]; exact hrun, ⟨es, clock, since, seen.push e.born, clock, hb', g, hset.1, hold, hsk, hsk, ?_⟩, ?_, ?_, by rw [hk, hv]; exact hen⟩
      · have hnd : ((leftOf es seen).toList.map (·.born)).Nodup := by
          unfold leftOf
          rw [Array.toList_filter]
          exact g.born.sublist (List.filter_sublist.map _)
        have : (leftOf es (seen.push e.born)).toList = (leftOf es seen).toList.eraseIdx j := by
          rw [← filter_one (·.born) _ j e hnd hj']
          unfold leftOf
          rw [Array.toList_filter, Array.toList_filter, List.filter_filter]
          refine List.filter_congr fun x _ => ?_
          rw [contains_push]
          cases seen.contains x.born <;> cases (x.born == e.born) <;> rfl
        rw [this, ← erase_map, hl, erase_map]
      · rcases hal with rfl | rfl <;> exact ⟨rfl, rfl, rfl, by simp [setBlock], fun i _ hi => hset.2 i hi⟩
      · rcases hal with rfl | rfl <;> simp [setBlock]
theorem filter_erase {α : Type} (P : α → Bool) : ∀ (l : List α) (j : Nat) (e : α), l[j]? = some e → P e = false → (l.eraseIdx j).filter P = l.filter P
  | [], _, _, h, _ => by simp at h
  | x :: l, 0, e, h, hP => by
    simp at h
    subst h
    simp [hP]
  | x :: l, j + 1, e, h, hP => by
    rw [List.eraseIdx_cons_succ, List.filter_cons, List.filter_cons, filter_erase P l j e (by simpa using h) hP]
def dl (L : Ls) (k : Hn) : Ls := L.filter fun p => !decide (p.1 = k)
theorem erase_dl : ∀ {L : Ls} {j : Nat} {p : Bl}, ND L → L[j]? = some p → L.eraseIdx j = dl L p.1
  | [], _, _, _, h => by simp at h
  | x :: l, 0, p, hn, h => by
    simp at h
    subst h
    obtain ⟨h1, h2⟩ := nd_cons hn
    unfold dl
    rw [List.filter_cons]
    simp only [decide_true, Bool.not_true, Bool.false_eq_true, if_false, List.eraseIdx_cons_zero]
    exact (List.filter_eq_self.2 fun q hq => by simpa using h1 q hq).symm
  | x :: l, j + 1, p, hn, h => by
    obtain ⟨h1, h2⟩ := nd_cons hn
    have h' : l[j]? = some p := by simpa using h
    have : x.1 ≠ p.1 := fun e => h1 p (List.mem_of_getElem? h') e.symm
    rw [List.eraseIdx_cons_succ, erase_dl h2 h']
    unfold dl
    rw [List.filter_cons, if_pos (by simpa using this)]
theorem It.drop {w : World} {b r : Nat} {L M : Ls} (h : It w b r L M) (k : Hn) (hk : ∃ p ∈ L, p.1 = k) (hM : ∀ p ∈ M, p.1 ≠ k) :
    ∃ w', (∀ ty, (Builtin.delete_ #[68, 43] ty #[.map (some b), hV k]).run Try.prog w = .ok (.tuple #[]) w') ∧ It w' b r (dl L k) M ∧ Touch b w w' ∧ w'.heap.size = w.heap.size := by
  have hne := h.ne
  obtain ⟨es, clock, since, seen, c0, hb, g, hr, hold, hsc, hsk, hl⟩ := h
  rcases finds k es.toList w g.keys with ⟨f1, f2⟩ | ⟨j, e0, f1, f2, f3⟩
  · obtain ⟨p, hp, e⟩ := hk
    exact absurd e (g.no f2 p hp)
  · have hjl : j < es.toList.length := (List.getElem?_eq_some_iff.1 f2).1
    have hjs : j < es.size := by simpa using hjl
    have hsub : (es.eraseIdxIfInBounds j).toList = es.toList.eraseIdx j := by
      unfold Array.eraseIdxIfInBounds
      rw [dif_pos hjs]
      simp
    obtain ⟨p, hp, e1, e2⟩ := g.at f2
    have hpk : p.1 = k := hV_inj (e1.symm.trans f3)
    refine ⟨setBlock w b (.map (es.eraseIdxIfInBounds j) clock), ?_, ⟨_, clock, since, seen, c0, heap_setBlock_same hb _, ⟨?_, ?_, ?_, ?_⟩, ((heap_set hb).2 r hne).trans hr, ?_, hsc, hsk, ?_⟩, touch_setBlock hb, by simp [setBlock]⟩
    · intro ty
      simp [Builtin.delete_, run_underlying Try.underlying68, MapKept.run_getObj_map hb, chk, f1, MapKept.run_setObj_map _ hb, Result.andThen, setBlock]
    · rw [hsub, ← erase_map, g.same, erase_map, erase_dl g.nd hp, hpk]
    · unfold ND dl
      exact g.nd.sublist (List.filter_sublist.map _)
    · intro x hx
      rw [hsub] at hx
      exact g.old x ((List.eraseIdx_sublist _ _).subset hx)
    · rw [hsub, ← erase_map]
      exact g.born.sublist (List.eraseIdx_sublist _ _)
    · intro x hx
      rw [hsub] at hx
      exact hold x ((List.eraseIdx_sublist _ _).subset hx)
    · rw [← hl]
      refine congrArg (List.map kvE) ?_
      unfold leftOf
      rw [Array.toList_filter, Array.toList_filter, hsub]
      refine filter_erase _ _ j e0 f2 ?_
      cases hs : (!seen.contains e0.born) with
      | false => rfl
      | true =>
        exfalso
        have hm : e0 ∈ (leftOf es seen).toList := by
          unfold leftOf
          rw [Array.toList_filter]
          exact List.mem_filter.2 ⟨List.mem_of_getElem? f2, hs⟩
        have : kvE e0 ∈ M.map kvB := by rw [← hl]; exact List.mem_map.2 ⟨e0, hm, rfl⟩
        obtain ⟨q, hq, e⟩ := List.mem_map.1 this
        exact hM q hq (hV_inj ((congrArg Prod.fst e).trans f3))
end Go.Proofs.Ytnknhencobhjdaa
namespace Go.Proofs.Ytnknhencobhjdaa
open Go.ChangeShapes Go.WideShapes Go.ChangeAt Go.RowKit Go.Deep Go.ChangeMaps Go.MapKept
open Go.Proofs.Ytnknhencobhjdaa.Cp (pq hid bl1 hO cO zC looks_nil)
open Go.Proofs.Ytnknhencobhjdaa.Qt (zT badB)
section
variable {P : Program} {w : World} {ops : Array Oper} {rest : List Oper} {o : Oper} {a : Act} {Q : Exit → Act → World → Prop}
theorem wpList_range_run (hg : o.guard = none) (m : Operand) (t : TypeId) (hop : o.op = Op.range t m) (v : Value) (w' : World) (hrun : (Instr.range t (a.eval m)).run P w = .ok v w')
    (hK : wpList P ops Q rest (a.put o.dst v) w') : wpList P ops Q (o :: rest) a w := by
  refine wpList_plain hg fun K' hK' => ?_
  unfold Oper.wp
  simp [execOp, hop, hrun, Result.andThen]
  exact hK' _ _ hK
theorem wpList_next_run (hg : o.guard = none) (it : Operand) (hop : o.op = Op.next it false) (v : Value) (w' : World) (hrun : (Instr.next (a.eval it) false o.type).run P w = .ok v w')
    (hK : wpList P ops Q rest (a.put o.dst v) w') : wpList P ops Q (o :: rest) a w := by
  refine wpList_plain hg fun K' hK' => ?_
  unfold Oper.wp
  simp [execOp, hop, hrun, Result.andThen]
  exact hK' _ _ hK
end
abbrev emO : Obj := .cells #[.pointer none, .pointer none, .map none, .slice none 0 0, .slice none 0 0, .slice none 0 0] 71
theorem bel_two (w : World) (o p : Obj) : Hid (Below w.heap.size w ((w.alloc o).alloc p)) := (bl1 w _).trans ((bl1 _ _).mono (by simp))
theorem bth {w V W : World} (h : Hid (Below w.heap.size w V)) (k : Below V.heap.size V W) : Hid (Below w.heap.size w W) := h.out.trans (k.mono h.out.size)
theorem below_drew {w W : World} (h : Below w.drew.heap.size w.drew W) : Below w.heap.size w W := ⟨h.os, h.tape, h.output, h.size, h.block⟩
structure Sq2 (p : Nat) (P : Obj) (q : Nat) (Q : Obj) (W : World) : Prop where
  one : W.heap[p]? = some P
  two : W.heap[q]? = some Q
theorem Sq2.below {p q : Nat} {P Q : Obj} {W W' : World} (h : Sq2 p P q Q W) (hb : Below W.heap.size W W') : Sq2 p P q Q W' := ⟨bkb h.one hb, bkb h.two hb⟩
theorem Sq2.set4 {p q : Nat} {P Q : Obj} {W : World} (h : Sq2 p P q Q W) {Z : Nat} (hp : p ≠ Z) (hq : q ≠ Z) (c : Cp.Cp) : Sq2 p P q Q ((((W.setCell ⟨Z, 0, none⟩ (i64 c.env)).setCell ⟨Z, 1, none⟩ (i64 c.kind)).setCell ⟨Z, 2, none⟩ (i64 c.num)).setCell ⟨Z, 3, none⟩ (i64 c.rts)) := by
  obtain ⟨h1, h2⟩ := h
  constructor
  · rw [Below.heap_setCell _ _ _ _ (by exact hp), Below.heap_setCell _ _ _ _ (by exact hp), Below.heap_setCell _ _ _ _ (by exact hp), Below.heap_setCell _ _ _ _ (by exact hp)]; exact h1
  · rw [Below.heap_setCell _ _ _ _ (by exact hq), Below.heap_setCell _ _ _ _ (by exact hq), Below.heap_setCell _ _ _ _ (by exact hq), Below.heap_setCell _ _ _ _ (by exact hq)]; exact h2
abbrev bdO (vb vt vm s0 s1 s2 : Value) : Obj := .cells #[vb, vt, vm, s0, s1, s2] 71
def Ent (w : World) (v0 : Value) (O : Obj) : Prop := ∀ W, Below w.heap.size w W → Calls Try.prog 48 #[v0] W fun e w' => ∃ B, e = .returned (pq B) ∧ Below W.heap.size W w' ∧ w'.heap[B]? = some O
end Go.Proofs.Ytnknhencobhjdaa
namespace Go.Proofs.Ytnknhencobhjdaa
open Go.ChangeShapes Go.WideShapes Go.ChangeAt Go.RowKit Go.Deep Go.ChangeMaps Go.MapKept
open Go.Proofs.Ytnknhencobhjdaa.Cp (pq hid bl1 hO cO zC looks_nil)
open Go.Proofs.Ytnknhencobhjdaa.Qt (zT badB)
theorem load22 {W : World} {b : Nat} {x y z : Int} (h : W.heap[b]? = some (.cells #[i64 x, i64 y, i64 z] 22 (0, 0))) : (loadVar 22 ⟨b, 0, none⟩).run Try.prog W = .ok (.agg #[i64 x, i64 y, i64 z]) W := by
  have c0 : W.cell? ⟨b, 0, none⟩ = some (i64 x) := bkc h 0
  have c1 : W.cell? ⟨b, 1, none⟩ = some (i64 y) := bkc h 1
  have c2 : W.cell? ⟨b, 2, none⟩ = some (i64 z) := bkc h 2
  simp [go_sem, c0, c1, c2]
theorem set3 {V : World} {b : Nat} {x y z : Value} {t : TypeId} (h : V.heap[b]? = some (.cells #[x, y, z] t)) (p q r : Value) : (((V.setCell ⟨b, 0, none⟩ p).setCell ⟨b, 1, none⟩ q).setCell ⟨b, 2, none⟩ r).heap[b]? = some (.cells #[p, q, r] t) := by
  have h1 := heap_setCell_same V b 0 _ t p h
  have h2 := heap_setCell_same _ b 1 _ t q h1
  have h3 := heap_setCell_same _ b 2 _ t r h2
  exact h3
theorem bel3 {w V : World} {B b : Nat} (h : Below B w V) (hb : B ≤ b) (p q r : Value) : Below B w (((V.setCell ⟨b, 0, none⟩ p).setCell ⟨b, 1, none⟩ q).setCell ⟨b, 2, none⟩ r) := ((h.setCell hb _).setCell hb _).setCell hb _
abbrev triO (t : Qt.T) : Obj := .cells #[i64 t.a, i64 t.b, i64 t.c] 22
theorem results_one {W : World} {t : Array Value} {a : Addr} {u : Value} {F : Func} {n : Nat} {ty : TypeId} (hr : F.results = #[.cell n ty]) (h6 : t.getD n undef = .pointer (some a)) (g : (loadVar ty a).run Try.prog W = .ok u W) :
    (results F t).run Try.prog W = .ok u W := by
  have h6' : t[n]?.getD undef = .pointer (some a) := by simpa using h6
  unfold loadVar at g
  simp [results, hr, h6', go_sem] at g ⊢
  exact g
set_option maxHeartbeats 3200000 in
theorem spare_gen (w : World) (v0 vb vt vm s0 s1 s2 : Value) (t : Qt.T) (hE : Ent w v0 (bdO vb vt vm s0 s1 s2)) (hL : ∀ W, Below w.heap.size w W → Calls Try.prog 52 #[vb] W fun e w' => e = .returned t.v ∧ Below W.heap.size W w') : Calls Try.prog 17 #[v0] w fun e w' => e = .returned t.v ∧ Below w.heap.size w w' := by
  obtain ⟨ta, tb, tc⟩ := t
  have HL := hid hL
  have HE := hid hE
  have HB0 : Hid (Below w.heap.size w (w.alloc (.cells #[i64 0, i64 0, i64 0] 22))) := bl1 w _
  have HQ0 : Hid ((w.alloc (.cells #[i64 0, i64 0, i64 0] 22)).heap[w.heap.size]? = some (triO ⟨0, 0, 0⟩)) := hlx w _
  clear hL hE
  go_enter Try.func17, Try.ntmps17
  go_wp2_with fail
  refine (HE.out _ HB0.out).mono ?_
  rintro e w1 ⟨B, rfl, hb1, hO1⟩
  have HB1 : Hid (Below w.heap.size w w1) := bth HB0 hb1
  have HQ1 : Hid (w1.heap[w.heap.size]? = some (triO ⟨0, 0, 0⟩)) := bkb HQ0.out hb1
  have o0 : w1.cell? ⟨B, 0, none⟩ = some vb := bkc hO1 0
  clear hb1 hO1 HB0 HQ0 HE
  go_wp2_with fail
  refine (HL.out _ HB1.out).mono ?_
  rintro e w2 ⟨rfl, hb2⟩
  have HB2 : Hid (Below w.heap.size w w2) := bth HB1 hb2
  have HQ2 : Hid (w2.heap[w.heap.size]? = some (triO ⟨0, 0, 0⟩)) := bkb HQ1.out hb2
  have z0 : w2.cell? ⟨w.heap.size, 0, none⟩ = some (i64 0) := bkc HQ2.out 0
  have z1 : w2.cell? ⟨w.heap.size, 1, none⟩ = some (i64 0) := bkc HQ2.out 1
  have z2 : w2.cell? ⟨w.heap.size, 2, none⟩ = some (i64 0) := bkc HQ2.out 2
  have zf : ∀ j, w2.frozen? ⟨w.heap.size, j, none⟩ = false := bkf HQ2.out
  clear hb2 HB1 HQ1 o0 HL
  unfold Qt.T.v
  go_wp2_with fail
  exact bodyPost_ret (results_one Try.results17 rfl (load22 (set3 HQ2.out _ _ _))) rfl ⟨rfl, bel3 HB2.out (Nat.le_refl _) _ _ _⟩
end Go.Proofs.Ytnknhencobhjdaa
namespace Go.Proofs.Ytnknhencobhjdaa
open Go.ChangeShapes Go.WideShapes Go.ChangeAt Go.RowKit Go.Deep Go.ChangeMaps Go.MapKept
open Go.Proofs.Ytnknhencobhjdaa.Cp (pq hid bl1 hO cO zC looks_nil)
open Go.Proofs.Ytnknhencobhjdaa.Qt (zT badB)
theorem results_mid {W : World} {t : Array Value} {a : Addr} {u x v : Value} {F : Func} {l n m : Nat} {ty : TypeId} (hr : F.results = #[.tmp l, .cell n ty, .tmp m]) (h5 : t.getD l undef = x) (h6 : t.getD n undef = .pointer (some a)) (h7 : t.getD m undef = v) (g : (loadVar ty a).run Try.prog W = .ok u W) :
    (results F t).run Try.prog W = .ok (.tuple #[x, u, v]) W := by
  simp only [results, hr]
  simp [Result.andThen, asAddr, h5, h6, h7, g, -Array.getD_eq_getD_getElem?]
theorem fld104 (x y : Value) (W : World) : (Instr.field 104 (.agg #[x, y]) 0).run Try.prog W = .ok x W := by kernel_rfl
end Go.Proofs.Ytnknhencobhjdaa
namespace Go.Proofs.Ytnknhencobhjdaa
open Go.ChangeShapes Go.WideShapes Go.ChangeAt Go.RowKit Go.Deep Go.ChangeMaps Go.MapKept
open Go.Proofs.Ytnknhencobhjdaa.Cp (pq hid bl1 hO cO zC looks_nil)
open Go.Proofs.Ytnknhencobhjdaa.Qt (zT badB)
def hC (R : List Hn) : List Value := R.flatMap fun h => [i64 h.1, i64 h.2]
theorem hC_get : ∀ (R : List Hn) (i : Nat) (h : Hn), R[i]? = some h → (hC R)[i * 2]? = some (i64 h.1) ∧ (hC R)[i * 2 + 1]? = some (i64 h.2)
  | [], _, _, e => by simp at e
  | x :: R, 0, h, e => by
    simp at e
    subst e
    exact ⟨rfl, rfl⟩
  | x :: R, i + 1, h, e => by
    have := hC_get R i h (by simpa using e)
    unfold hC at this ⊢
    rw [List.flatMap_cons, show (i + 1) * 2 = i * 2 + 2 by omega, show i * 2 + 2 + 1 = (i * 2 + 1) + 2 by omega]
    simpa using this
theorem hC_set : ∀ (R : List Hn) (i : Nat) (h : Hn), i < R.length → hC (R.set i h) = ((hC R).set (i * 2) (i64 h.1)).set (i * 2 + 1) (i64 h.2)
  | [], _, _, e => by simp at e
  | x :: R, 0, h, _ => rfl
  | x :: R, i + 1, h, e => by
    have := hC_set R i h (by simpa using e)
    unfold hC at this ⊢
    rw [List.set_cons_succ, List.flatMap_cons, List.flatMap_cons, this, show (i + 1) * 2 = i * 2 + 2 by omega, show i * 2 + 2 + 1 = (i * 2 + 1) + 2 by omega]
    simp
abbrev rtO (R : List Hn) : Obj := .cells (hC R).toArray 43
abbrev slV (g n : Nat) : Value := .slice (some ⟨g, 0, none⟩) n n
structure Bx where
  kb : Nat
  kt : Nat
  km : Nat
  g : Nat → Nat
structure Bd (w : World) (base b : Nat) (x : Bx) (t : Qt.T) (s : Qt.St) (T : List Cp.Pl) (L : Ls) (R : Nat → List Hn) : Prop where
  row : w.heap[b]? = some (bdO (pq x.kb) (pq x.kt) (.map (some x.km)) (slV (x.g 0) (R 0).length) (slV (x.g 1) (R 1).length) (slV (x.g 2) (R 2).length))
  lo : base ≤ b
  bk : Qt.Bk w base x.kb t s
  tb : Cp.Tb w base x.kt T
  mp : MapIs w x.km L
  mlo : base ≤ x.km
  rt : ∀ k, k < 3 → w.heap[x.g k]? = some (rtO (R k)) ∧ base ≤ x.g k
  ap : ∀ i j, i < 3 → j < 3 → i ≠ j → x.g i ≠ x.g j
  len : ∀ k, k < 3 → (R k).length ≤ 64
section
variable {w w' : World} {base b : Nat} {x : Bx} {t : Qt.T} {s : Qt.St} {T : List Cp.Pl} {L : Ls} {R : Nat → List Hn}
theorem Bd.lt (h : Bd w base b x t s T L R) : b < w.heap.size := blk_lt h.row
theorem Bd.below (h : Bd w base b x t s T L R) (hb : Below w.heap.size w w') : Bd w' base b x t s T L R :=
  ⟨bkb h.row hb, h.lo, h.bk.below hb, h.tb.below hb, h.mp.kept (hb.block _ h.mp.lt), h.mlo, fun k hk => ⟨bkb (h.rt k hk).1 hb, (h.rt k hk).2⟩, h.ap, h.len⟩
theorem Bd.drew (h : Bd w base b x t s T L R) : Bd w.drew base b x t s T L R :=
  ⟨h.row, h.lo, h.bk.same (fun _ _ hk _ => hk), ⟨h.tb.lo, h.tb.len, h.tb.row⟩, h.mp.kept rfl, h.mlo, h.rt, h.ap, h.len⟩
def ownB (x : Bx) (k : Nat) : Obj → Bool
  | .cells _ t _ => t == 118 || t == 141 || t == 123 || k == x.g 0 || k == x.g 1 || k == x.g 2
  | .map _ _ => k == x.km
  | _ => false
structure Bf (base : Nat) (x : Bx) (w w' : World) : Prop where
  below : Below base w w'
  kept : ∀ (k : Nat) (o : Obj), w.heap[k]? = some o → ownB x k o = false → w'.heap[k]? = some o
theorem Bf.refl (base : Nat) (x : Bx) (w : World) : Bf base x w w := ⟨Below.refl _ _, fun _ _ h _ => h⟩
theorem Bf.trans {a c : World} (h : Bf base x a w) (k : Bf base x w c) : Bf base x a c :=
  ⟨h.below.trans k.below, fun i o hi ho => k.kept i o (h.kept i o hi ho) ho⟩
theorem Bf.of_below (hb : Below w.heap.size w w') (h : base ≤ w.heap.size) : Bf base x w w' := ⟨hb.mono h, fun _ _ hk _ => bkb hk hb⟩
theorem Bf.size (h : Bf base x w w') : w.heap.size ≤ w'.heap.size := h.below.size
theorem Bd.lo' (h : Bd w base b x t s T L R) : base ≤ w.heap.size := by have := h.lt; have := h.lo; omega
theorem Bf.drew (h : Bf base x w w') : Bf base x w w'.drew := ⟨h.below.drew, h.kept⟩
theorem Bf.of_drew (h : Bf base x w.drew w') : Bf base x w w' := ⟨⟨h.below.os, h.below.tape, h.below.output, h.below.size, h.below.block⟩, h.kept⟩
theorem ne_of_obj {a c : Nat} {o p : Obj} (h : w.heap[a]? = some o) (k : w.heap[c]? = some p) (hne : o ≠ p) : a ≠ c := fun e => by
  subst e
  rw [h] at k
  exact hne (Option.some.inj k)
theorem MapIs.ne {km a : Nat} {C : Array Value} {ty : TypeId} (h : MapIs w km L) (k : w.heap[a]? = some (.cells C ty)) : a ≠ km := fun e => by
  obtain ⟨es, clock, hb, _⟩ := h
  subst e
  rw [hb] at k
  cases k
theorem Bd.table (h : Bd w base b x t s T L R) {T' : List Cp.Pl} (ht : Cp.Tb w' base x.kt T') (hto : Touch x.kt w w') : Bd w' base b x t s T' L R := by
  have keep : ∀ {k : Nat} {o : Obj}, w.heap[k]? = some o → k ≠ x.kt → w'.heap[k]? = some o := fun hk hne => (hto.block _ (blk_lt hk) hne).trans hk
  refine ⟨keep h.row (ne_of_obj h.row h.tb.row (by simp)), h.lo, h.bk.same (fun k o hk ho => keep hk (ne_of_obj hk h.tb.row (fun e => ?_))), ht, h.mp.kept (hto.block _ h.mp.lt (fun e => h.mp.ne h.tb.row e.symm)), h.mlo, fun k hk => ⟨keep (h.rt k hk).1 (ne_of_obj (h.rt k hk).1 h.tb.row (by simp)), (h.rt k hk).2⟩, h.ap, h.len⟩
  obtain ⟨C, rfl | rfl⟩ := ho <;> cases e
theorem Bd.table_f (h : Bd w base b x t s T L R) (hto : Touch x.kt w w') : Bf base x w w' :=
  ⟨hto.below h.tb.lo h.lo', fun k o hk ho => (hto.block _ (blk_lt hk) (fun e => by
    subst e
    rw [h.tb.row] at hk
    cases hk
    simp [ownB] at ho)).trans hk⟩
theorem Bd.book (h : Bd w base b x t s T L R) {s' : Qt.St} (hk : Qt.Bk w' base x.kb t s') (hf : Fr base [118, 141] w w') : Bd w' base b x t s' T L R := by
  refine ⟨hf.kept _ _ h.row rfl, h.lo, hk, ⟨h.tb.lo, h.tb.len, hf.kept _ _ h.tb.row rfl⟩, ?_, h.mlo, fun k hk => ⟨hf.kept _ _ (h.rt k hk).1 rfl, (h.rt k hk).2⟩, h.ap, h.len⟩
  obtain ⟨es, clock, hb, g⟩ := h.mp
  exact ⟨es, clock, hf.kept _ _ hb rfl, g⟩
theorem Bd.book_f (hf : Fr base [118, 141] w w') : Bf base x w w' := ⟨hf.below, fun k o hk ho => hf.kept k o hk (by
  cases o with
  | cells C ty fr =>
    simp only [ownB, Bool.or_eq_false_iff] at ho
    simp only [keeps]
    simp
    simp at ho
    exact ⟨ho.1.1.1.1.1, ho.1.1.1.1.2⟩
  | _ => rfl)⟩
theorem Bd.bills (h : Bd w base b x t s T L R) {L' : Ls} (hm : MapIs w' x.km L') (hto : Touch x.km w w') : Bd w' base b x t s T L' R := by
  have keep : ∀ {k : Nat} {C : Array Value} {ty : TypeId}, w.heap[k]? = some (.cells C ty) → w'.heap[k]? = some (.cells C ty) := fun hk => (hto.block _ (blk_lt hk) (h.mp.ne hk)).trans hk
  refine ⟨keep h.row, h.lo, h.bk.same (fun k o hk ho => ?_), ⟨h.tb.lo, h.tb.len, keep h.tb.row⟩, hm, h.mlo, fun k hk => ⟨keep (h.rt k hk).1, (h.rt k hk).2⟩, h.ap, h.len⟩
  obtain ⟨C, rfl | rfl⟩ := ho <;> exact keep hk
theorem Bd.bills_f (h : Bd w base b x t s T L R) (hto : Touch x.km w w') : Bf base x w w' :=
  ⟨hto.below h.mlo h.lo', fun k o hk ho => (hto.block _ (blk_lt hk) (fun e => by
    subst e
    obtain ⟨es, clock, hb, _⟩ := h.mp
    rw [hb] at hk
    cases hk
    simp [ownB] at ho)).trans hk⟩
theorem Bd.root (h : Bd w base b x t s T L R) {k : Nat} (hk : k < 3) {R' : List Hn} (hl : R'.length = (R k).length) (hr : w'.heap[x.g k]? = some (rtO R')) (hto : Touch (x.g k) w w') : Bd w' base b x t s T L (fun i => if i = k then R' else R i) := by
  have hg := (h.rt k hk).1
  have keep : ∀ {j : Nat} {o : Obj}, w.heap[j]? = some o → j ≠ x.g k → w'.heap[j]? = some o := fun hk hne => (hto.block _ (blk_lt hk) hne).trans hk
  have hlen : ∀ i, (if i = k then R' else R i).length = (R i).length := fun i => by
    by_cases e : i = k
    · rw [if_pos e, e, hl]
    · rw [if_neg e]
  refine ⟨?_, h.lo, h.bk.same (fun j o hj ho => keep hj (ne_of_obj hj hg (fun e => ?_))), ⟨h.tb.lo, h.tb.len, keep h.tb.row (ne_of_obj h.tb.row hg (by simp))⟩, h.mp.kept (hto.block _ h.mp.lt (fun e => h.mp.ne hg e.symm)), h.mlo, fun i hi => ?_, h.ap, fun i hi => by rw [hlen]; exact h.len i hi⟩
  · rw [hlen, hlen, hlen]
    exact keep h.row (ne_of_obj h.row hg (by simp))
  · obtain ⟨C, rfl | rfl⟩ := ho <;> cases e
  · by_cases e : i = k
    · subst e
      rw [if_pos rfl]
      exact ⟨hr, (h.rt i hi).2⟩
    · rw [if_neg e]
      exact ⟨keep (h.rt i hi).1 (h.ap i k hi hk e), (h.rt i hi).2⟩
theorem Bd.root_f (h : Bd w base b x t s T L R) {k : Nat} (hk : k < 3) (hto : Touch (x.g k) w w') : Bf base x w w' :=
  ⟨hto.below (h.rt k hk).2 h.lo', fun j o hj ho => (hto.block _ (blk_lt hj) (fun e => by
    subst e
    rw [(h.rt k hk).1] at hj
    cases hj
    obtain rfl | rfl | rfl : k = 0 ∨ k = 1 ∨ k = 2 := by omega
    all_goals simp [ownB] at ho)).trans hj⟩
theorem Bd.box (h : Bd w base b x t s T L R) {a : Nat} {C : Array Value} (ha : w.heap[a]? = some (.cells C 43)) (hg : ∀ k, k < 3 → x.g k ≠ a) (hto : Touch a w w') : Bd w' base b x t s T L R := by
  have keep : ∀ {k : Nat} {o : Obj}, w.heap[k]? = some o → k ≠ a → w'.heap[k]? = some o := fun hk hne => (hto.block _ (blk_lt hk) hne).trans hk
  refine ⟨keep h.row (ne_of_obj h.row ha (by simp)), h.lo, h.bk.same (fun k o hk ho => keep hk (ne_of_obj hk ha (fun e => ?_))), ⟨h.tb.lo, h.tb.len, keep h.tb.row (ne_of_obj h.tb.row ha (by simp))⟩, h.mp.kept (hto.block _ h.mp.lt (fun e => h.mp.ne ha e.symm)), h.mlo, fun k hk => ⟨keep (h.rt k hk).1 (hg k hk), (h.rt k hk).2⟩, h.ap, h.len⟩
  obtain ⟨C, rfl | rfl⟩ := ho <;> cases e
theorem Bf.box {a : Nat} {w0 : World} (h : Bf base x w0 w) (ha : w0.heap.size ≤ a) (hb : base ≤ w0.heap.size) (hto : Touch a w w') : Bf base x w0 w' :=
  ⟨h.below.trans (hto.below (by omega) (by have := h.size; omega)), fun k o hk ho => (hto.block _ (by have := blk_lt hk; have := h.size; omega) (by have := blk_lt hk; omega)).trans (h.kept k o hk ho)⟩
end
theorem orEmpty_ok (w : World) (b : Nat) : Calls Try.prog 48 #[pq b] w fun e w' => e = .returned (pq b) ∧ w' = w := by
  go_enter Try.func48, Try.ntmps48
  go_wp2_with fail
  go_ret
  exact ⟨rfl, rfl⟩
theorem ent_ok {w : World} {b : Nat} {O : Obj} (h : w.heap[b]? = some O) : Ent w (pq b) O := fun W hW => (orEmpty_ok W b).mono fun e w' ⟨he, hw⟩ => ⟨b, he, by rw [hw]; exact Below.refl _ _, by rw [hw]; exact bkb h hW⟩
end Go.Proofs.Ytnknhencobhjdaa
