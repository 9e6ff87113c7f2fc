/- A map whose keys are keys and whose elements are entries: looked up, written, deleted from; no statement is proved in this text. -/
import Derived.Test.YtblhoaggonjhkaaBase
namespace Go.Proofs.Ytblhoaggonjhkaa
open Go.ChangeShapes Go.WideShapes Go.ChangeAt Go.RowKit Go.Deep Go.ChangeMaps Go.MapKept

abbrev Ls := List (K3 × En)
def ND (L : Ls) : Prop := (L.map Prod.fst).Nodup
def look (L : Ls) (k : K3) : Option En := (L.find? (fun p => decide (p.1 = k))).map (·.2)
theorem look_none {L : Ls} {k : K3} (h : ∀ p ∈ L, p.1 ≠ k) : look L k = none := by
  unfold look
  rw [List.find?_eq_none.2 (fun p hp => by simpa using h p hp)]
  rfl
theorem nd_cons {p : K3 × En} {L : Ls} (h : ND (p :: L)) : (∀ q ∈ L, q.1 ≠ p.1) ∧ ND L := by
  unfold ND at h ⊢
  rw [List.map_cons, List.nodup_cons] at h
  exact ⟨fun q hq e => h.1 (List.mem_map.2 ⟨q, hq, e⟩), h.2⟩
theorem look_some : ∀ {L : Ls}, ND L → ∀ {p : K3 × En}, p ∈ L → look L p.1 = some p.2
  | q :: L, h, p, hp => by
    obtain ⟨h1, h2⟩ := nd_cons h
    unfold look
    rw [List.find?_cons]
    rcases List.mem_cons.1 hp with rfl | hp
    · simp
    · have : decide (q.1 = p.1) = false := decide_eq_false (fun e => h1 p hp e.symm)
      rw [this]
      exact look_some h2 hp
theorem mem_of_look {L : Ls} {k : K3} {e : En} (h : look L k = some e) : (k, e) ∈ L := by
  unfold look at h
  cases hf : L.find? (fun p => decide (p.1 = k)) with
  | none => rw [hf] at h; cases h
  | some p =>
    rw [hf] at h
    have h1 := List.find?_some hf
    have h2 := List.mem_of_find?_eq_some hf
    simp at h h1
    obtain ⟨a, b⟩ := p
    simp at h h1
    subst h h1
    exact h2
theorem look_eq_none {L : Ls} {k : K3} (h : look L k = none) : ∀ p ∈ L, p.1 ≠ k := by
  intro p hp e
  unfold look at h
  cases hf : L.find? (fun p => decide (p.1 = k)) with
  | none => exact (by simpa using List.find?_eq_none.1 hf p hp : ¬ p.1 = k) e
  | some q => rw [hf] at h; cases h

theorem asking (k : K3) : ∀ (es : List MapEntry) (i : Nat) (w : World), (∀ x ∈ es, ∃ a, x.key = keyV a) →
    ((Instr.findAsking 31 (keyV k) es i).run Try.prog w = .ok none w ∧ ∀ x ∈ es, x.key ≠ keyV k) ∨ ∃ j e, (Instr.findAsking 31 (keyV k) es i).run Try.prog w = .ok (some (i + j, e.val)) w ∧ es[j]? = some e ∧ e.key = keyV k
  | [], i, w, _ => Or.inl ⟨rfl, fun x hx => by cases hx⟩
  | x :: es, i, w, h => by
    obtain ⟨a, ha⟩ := h x (by simp)
    by_cases hk : k = a
    · subst hk
      refine Or.inr ⟨0, x, ?_, rfl, ha⟩
      simp [Instr.findAsking, ha, eql, Result.andThen]
    · rcases asking k es (i + 1) w (fun y hy => h y (by simp [hy])) with ⟨h1, h2⟩ | ⟨j, e, h1, h2, h3⟩
      · refine Or.inl ⟨?_, ?_⟩
        · simp [Instr.findAsking, ha, eql, hk, Result.andThen, h1]
        · intro y hy
          rcases List.mem_cons.1 hy with rfl | hy
          · rw [ha]; exact fun e => hk (keyV_inj e).symm
          · exact h2 y hy
      · refine Or.inr ⟨j + 1, e, ?_, by simpa using h2, h3⟩
        simp [Instr.findAsking, ha, eql, hk, Result.andThen, h1]
        omega

theorem finds (k : K3) (es : List MapEntry) (w : World) (h : ∀ x ∈ es, ∃ a, x.key = keyV a) :
    ((Instr.findKey 31 (keyV k) es).run Try.prog w = .ok none w ∧ ∀ x ∈ es, x.key ≠ keyV k) ∨ ∃ j e, (Instr.findKey 31 (keyV k) es).run Try.prog w = .ok (some (j, e.val)) w ∧ es[j]? = some e ∧ e.key = keyV k := by
  cases es with
  | nil => exact Or.inl ⟨by simp [Instr.findKey, run_underlying Try.underlying31, Instr.findNow, Result.andThen], fun x hx => by cases hx⟩
  | cons x es =>
    have e1 : (Instr.findKey 31 (keyV k) (x :: es)).run Try.prog w = (Instr.findAsking 31 (keyV k) (x :: es) 0).run Try.prog w := by
      simp [Instr.findKey, run_underlying Try.underlying31, Instr.findNow, Instr.sameNow, Result.andThen]
    rw [e1]
    rcases asking k (x :: es) 0 w h with h1 | ⟨j, e, h1, h2, h3⟩
    · exact Or.inl h1
    · exact Or.inr ⟨j, e, by simpa using h1, h2, h3⟩

/-- Block b is a map that holds just what L holds. -/
def MapIs (w : World) (b : Nat) (L : Ls) : Prop := ∃ es clock, w.heap[b]? = some (.map es clock) ∧ (∀ x ∈ es.toList, ∃ p ∈ L, x.key = keyV p.1 ∧ x.val = entV p.2) ∧ (∀ p ∈ L, ∃ x ∈ es.toList, x.key = keyV p.1 ∧ x.val = entV p.2) ∧ es.toList.Pairwise (fun x y => x.key ≠ y.key)
theorem MapIs.lt {w : World} {b : Nat} {L : Ls} (h : MapIs w b L) : b < w.heap.size := by
  obtain ⟨es, clock, hb, _⟩ := h
  exact (Array.getElem?_eq_some_iff.1 hb).1
theorem MapIs.kept {w w' : World} {b : Nat} {L : Ls} (h : MapIs w b L) (hb : w'.heap[b]? = w.heap[b]?) : MapIs w' b L := by
  obtain ⟨es, clock, h1, h2⟩ := h
  exact ⟨es, clock, hb.trans h1, h2⟩
theorem MapIs.made (w : World) : MapIs (w.alloc (.map #[] 0)) w.heap.size [] := ⟨#[], 0, heap_last w _, by simp, by simp, by simp⟩

def lookR (L : Ls) (k : K3) (c : Bool) : Value := if c then .tuple #[entV ((look L k).getD zeroE), .bool (look L k).isSome] else entV ((look L k).getD zeroE)
theorem MapIs.lkup {w : World} {b : Nat} {L : Ls} (h : MapIs w b L) (hn : ND L) (k : K3) (c : Bool) : (Instr.lookup 54 (.map (some b)) (keyV k) c).run Try.prog w = .ok (lookR L k c) w := by
  obtain ⟨es, clock, hb, h1, h2, h3⟩ := h
  have hk : ∀ x ∈ es.toList, ∃ a, x.key = keyV a := fun x hx => by obtain ⟨p, _, e, _⟩ := h1 x hx; exact ⟨p.1, e⟩
  rcases finds k es.toList w hk with ⟨f1, f2⟩ | ⟨j, e, f1, f2, f3⟩
  · have : look L k = none := look_none (fun p hp e => by
      obtain ⟨x, hx, hxk, _⟩ := h2 p hp
      exact f2 x hx (by rw [hxk, e]))
    unfold lookR
    rw [this]
    simp [Instr.lookup, run_underlying Try.underlying54, MapKept.run_getObj_map hb, chk, f1, Result.andThen]
    cases c <;> rfl
  · obtain ⟨p, hp, e1, e2⟩ := h1 e (List.mem_of_getElem? f2)
    have hpk : p.1 = k := keyV_inj (e1.symm.trans f3)
    have : look L k = some p.2 := by rw [← hpk]; exact look_some hn hp
    unfold lookR
    rw [this]
    simp [Instr.lookup, run_underlying Try.underlying54, MapKept.run_getObj_map hb, chk, f1, e2, Result.andThen]
theorem look_nilmap (w : World) (k : K3) (c : Bool) : (Instr.lookup 54 (.map none) (keyV k) c).run Try.prog w = .ok (lookR [] k c) w := by
  have f1 : (Instr.findKey 31 (keyV k) []).run Try.prog w = .ok none w := by
    rcases finds k [] w (fun x hx => by cases hx) with h | ⟨j, e, _, h, _⟩
    · exact h.1
    · simp at h
  simp [Instr.lookup, run_underlying Try.underlying54, chk, f1, Result.andThen, lookR, look]
  cases c <;> rfl

theorem touch_setBlock {w : World} {b : Nat} {es : Array MapEntry} {clock : Nat} {o' : Obj} (h : w.heap[b]? = some (.map es clock)) : Touch b w (setBlock w b o') :=
  ⟨rfl, rfl, rfl, by simp [setBlock], fun k _ hk => heap_setBlock_other h _ hk⟩

theorem MapIs.put {w : World} {b : Nat} {L L' : Ls} (h : MapIs w b L) (k : K3) (e : En) (hL : ∀ p, p ∈ L' ↔ (p ∈ L ∧ p.1 ≠ k) ∨ p = (k, e)) :
    ∃ w', (Instr.mapUpdate 54 (.map (some b)) (keyV k) (entV e)).run Try.prog w = .ok () w' ∧ MapIs w' b L' ∧ Touch b w w' := by
  obtain ⟨es, clock, hb, h1, h2, h3⟩ := h
  have hk : ∀ x ∈ es.toList, ∃ a, x.key = keyV a := fun x hx => by obtain ⟨p, _, e, _⟩ := h1 x hx; exact ⟨p.1, e⟩
  rcases finds k es.toList w hk with ⟨f1, f2⟩ | ⟨j, e0, f1, f2, f3⟩
  · refine ⟨setBlock w b (.map (es.push ⟨keyV k, entV e, clock⟩) (clock + 1)), ?_, ⟨_, _, heap_setBlock_same hb _, ?_, ?_, ?_⟩, touch_setBlock hb⟩
    · simp [Instr.mapUpdate, run_underlying Try.underlying54, MapKept.run_getObj_map hb, chk, f1, MapKept.run_setObj_map _ hb, Result.andThen, setBlock]
    · intro x hx
      simp only [Array.toList_push, List.mem_append, List.mem_singleton] at hx
      rcases hx with hx | rfl
      · obtain ⟨p, hp, e1, e2⟩ := h1 x hx
        exact ⟨p, (hL p).2 (Or.inl ⟨hp, fun he => f2 x hx (by rw [e1, he])⟩), e1, e2⟩
      · exact ⟨(k, e), (hL _).2 (Or.inr rfl), rfl, rfl⟩
    · intro p hp
      rcases (hL p).1 hp with ⟨hp, _⟩ | rfl
      · obtain ⟨x, hx, e1⟩ := h2 p hp
        exact ⟨x, by simp [hx], e1⟩
      · exact ⟨⟨keyV k, entV e, clock⟩, by simp, rfl, rfl⟩
    · rw [Array.toList_push, List.pairwise_append]
      refine ⟨h3, by simp, fun x hx y hy => ?_⟩
      simp at hy
      subst hy
      exact f2 x hx
  · have hj : es[j]? = some e0 := by simpa using f2
    have hjl : j < es.toList.length := (List.getElem?_eq_some_iff.1 f2).1
    have hlist : (es.modify j (fun e' => { e' with key := keyV k, val := entV e })).toList = es.toList.set j { e0 with key := keyV k, val := entV e } := by rw [Array.toList_modify, modify_eq_set _ _ _ _ f2]
    have who : ∀ x ∈ es.toList.set j { e0 with key := keyV k, val := entV e }, x = { e0 with key := keyV k, val := entV e } ∨ (x ∈ es.toList ∧ x.key ≠ keyV k) := by
      intro x hx
      obtain ⟨i, hi, ex⟩ := List.getElem_of_mem hx
      rw [List.getElem_set] at ex
      split at ex
      · exact Or.inl ex.symm
      · rename_i hne
        have hi' : i < es.toList.length := by simpa using hi
        refine Or.inr ⟨ex ▸ List.getElem_mem hi', ?_⟩
        rw [← ex]
        have hkj : es.toList[j].key = keyV k := by rw [List.getElem?_eq_getElem hjl] at f2; rw [Option.some.inj f2]; exact f3
        rcases Nat.lt_or_gt_of_ne hne with hlt | hlt
        · exact fun he => List.pairwise_iff_getElem.1 h3 j i hjl hi' hlt (hkj.trans he.symm)
        · exact fun he => List.pairwise_iff_getElem.1 h3 i j hi' hjl hlt (he.trans hkj.symm)
    refine ⟨setBlock w b (.map (es.modify j (fun e' => { e' with key := keyV k, val := entV e })) clock), ?_, ⟨_, _, heap_setBlock_same hb _, ?_, ?_, ?_⟩, touch_setBlock hb⟩
    · simp [Instr.mapUpdate, run_underlying Try.underlying54, MapKept.run_getObj_map hb, chk, f1, hj, f3, stays, MapKept.run_setObj_map _ hb, Result.andThen, setBlock]
    · intro x hx
      rw [hlist] at hx
      rcases who x hx with rfl | ⟨hx, hne⟩
      · exact ⟨(k, e), (hL _).2 (Or.inr rfl), rfl, rfl⟩
      · obtain ⟨p, hp, e1, e2⟩ := h1 x hx
        exact ⟨p, (hL p).2 (Or.inl ⟨hp, fun he => hne (by rw [e1, he])⟩), e1, e2⟩
    · intro p hp
      rw [hlist]
      rcases (hL p).1 hp with ⟨hp, hpk⟩ | rfl
      · obtain ⟨x, hx, e1, e2⟩ := h2 p hp
        obtain ⟨i, hi, ex⟩ := List.getElem_of_mem hx
        refine ⟨x, ?_, e1, e2⟩
        have hij : j ≠ i := fun he => by
          subst he
          have he0 : es.toList[j] = e0 := by rw [List.getElem?_eq_getElem hjl] at f2; exact Option.some.inj f2
          rw [he0] at ex
          subst ex
          exact hpk (keyV_inj (e1.symm.trans f3))
        rw [List.mem_iff_getElem]
        exact ⟨i, by simpa using hi, by rw [List.getElem_set_ne hij]; exact ex⟩
      · exact ⟨{ e0 with key := keyV k, val := entV e }, List.mem_iff_getElem.2 ⟨j, by simpa using hjl, by simp⟩, rfl, rfl⟩
    · rw [hlist]
      rw [List.pairwise_iff_getElem]
      have hkj : es.toList[j].key = keyV k := by rw [List.getElem?_eq_getElem hjl] at f2; rw [Option.some.inj f2]; exact f3
      intro a c ha hc hac
      have ha' : a < es.toList.length := by simpa using ha
      have hc' : c < es.toList.length := by simpa using hc
      have hp := List.pairwise_iff_getElem.1 h3 a c ha' hc' hac
      rw [List.getElem_set, List.getElem_set]
      split
      · rename_i hja
        subst hja
        rw [if_neg (by omega)]
        exact fun he => hp (hkj.trans he)
      · split
        · rename_i hjc
          subst hjc
          exact fun he => hp (he.trans hkj.symm)
        · exact hp

theorem MapIs.del {w : World} {b : Nat} {L L' : Ls} (h : MapIs w b L) (k : K3) (hL : ∀ p, p ∈ L' ↔ (p ∈ L ∧ p.1 ≠ k)) :
    ∃ w', (∀ ty, (Builtin.delete_ #[54, 31] ty #[.map (some b), keyV k]).run Try.prog w = .ok (.tuple #[]) w') ∧ MapIs w' b L' ∧ Touch b w w' := by
  obtain ⟨es, clock, hb, h1, h2, h3⟩ := h
  have hk : ∀ x ∈ es.toList, ∃ a, x.key = keyV a := fun x hx => by obtain ⟨p, _, e, _⟩ := h1 x hx; exact ⟨p.1, e⟩
  rcases finds k es.toList w hk with ⟨f1, f2⟩ | ⟨j, e0, f1, f2, f3⟩
  · refine ⟨setBlock w b (.map es clock), ?_, ⟨_, _, heap_setBlock_same hb _, ?_, ?_, h3⟩, touch_setBlock hb⟩
    · intro ty
      simp [Builtin.delete_, run_underlying Try.underlying54, MapKept.run_getObj_map hb, chk, f1, MapKept.run_setObj_map _ hb, Result.andThen, setBlock]
    · intro x hx
      obtain ⟨p, hp, e1, e2⟩ := h1 x hx
      exact ⟨p, (hL p).2 ⟨hp, fun he => f2 x hx (by rw [e1, he])⟩, e1, e2⟩
    · intro p hp
      exact h2 p ((hL p).1 hp).1
  · have hjl : j < es.toList.length := (List.getElem?_eq_some_iff.1 f2).1
    have hjs : j < es.size := by simpa using hjl
    have he0 : es.toList[j] = e0 := by rw [List.getElem?_eq_getElem hjl] at f2; exact Option.some.inj f2
    have hsub : (es.eraseIdxIfInBounds j).toList = es.toList.eraseIdx j := by
      unfold Array.eraseIdxIfInBounds
      rw [dif_pos hjs]
      simp
    refine ⟨setBlock w b (.map (es.eraseIdxIfInBounds j) clock), ?_, ⟨_, _, heap_setBlock_same hb _, ?_, ?_, ?_⟩, touch_setBlock hb⟩
    · intro ty
      simp [Builtin.delete_, run_underlying Try.underlying54, MapKept.run_getObj_map hb, chk, f1, MapKept.run_setObj_map _ hb, Result.andThen, setBlock]
    · intro x hx
      rw [hsub] at hx
      obtain ⟨i, hne, hi⟩ := List.mem_eraseIdx_iff_getElem?.1 hx
      have hx' := List.mem_of_getElem? hi
      obtain ⟨p, hp, e1, e2⟩ := h1 x hx'
      refine ⟨p, (hL p).2 ⟨hp, fun he => ?_⟩, e1, e2⟩
      have hil : i < es.toList.length := (List.getElem?_eq_some_iff.1 hi).1
      have hxi : es.toList[i] = x := by rw [List.getElem?_eq_getElem hil] at hi; exact Option.some.inj hi
      have hkk : es.toList[i].key = es.toList[j].key := by rw [hxi, he0, f3, e1, he]
      rcases Nat.lt_or_gt_of_ne hne with hlt | hlt
      · exact List.pairwise_iff_getElem.1 h3 i j hil hjl hlt hkk
      · exact List.pairwise_iff_getElem.1 h3 j i hjl hil hlt hkk.symm
    · intro p hp
      obtain ⟨hp, hpk⟩ := (hL p).1 hp
      obtain ⟨x, hx, e1, e2⟩ := h2 p hp
      refine ⟨x, ?_, e1, e2⟩
      rw [hsub, List.mem_eraseIdx_iff_getElem?]
      obtain ⟨i, hi, ex⟩ := List.getElem_of_mem hx
      refine ⟨i, fun he => ?_, by rw [List.getElem?_eq_getElem hi, ex]⟩
      subst he
      rw [he0] at ex
      subst ex
      exact hpk (keyV_inj (e1.symm.trans f3))
    · rw [hsub]
      exact h3.sublist (List.eraseIdx_sublist _ _)
end Go.Proofs.Ytblhoaggonjhkaa
