/- A map whose keys are places and whose elements are descriptors: looked up, written, deleted from; no statement is proved in this text. -/
import Derived.Test.YtdgkajhlofpdeaaApp
namespace Go.Proofs.Ytdgkajhlofpdeaa
open Go.ChangeShapes Go.WideShapes Go.ChangeAt Go.RowKit Go.Deep Go.ChangeMaps Go.MapKept


abbrev K : Type := Int × Int
abbrev Tr : Type := Int × Int × Int
abbrev St : Type := K → Option Tr
abbrev En : Type := K × Tr
abbrev kv (p s : Int) : Value := .agg #[i64 p, i64 s]
abbrev ev (p s a b c : Int) : Value := .agg #[i64 p, i64 s, i64 a, i64 b, i64 c]
abbrev keyV (k : K) : Value := kv k.1 k.2
abbrev entV (k : K) (t : Tr) : Value := ev k.1 k.2 t.1 t.2.1 t.2.2
theorem keyV_inj {a b : K} (h : keyV a = keyV b) : a = b := by
  rcases a with ⟨a1, a2⟩
  rcases b with ⟨b1, b2⟩
  simp at h
  simp [h]
theorem chk (em : Bool) (k : K) (w : World) : (Instr.checkKey em 10000 74 (keyV k)).run Try.prog w = .ok () w := by kernel_rfl
theorem eqInt (d : Nat) (x y : Int) (w : World) : (Op.equalIn (d + 1) 3 (i64 x) (i64 y)).run Try.prog w = .ok (x == y) w := run_equalIn_int w d 3 .i64 .i64 x y Try.underlying3
theorem eql (a b : K) (w : World) : (Op.equal 74 (keyV a) (keyV b)).run Try.prog w = .ok (decide (a = b)) w := by
  unfold Op.equal Op.maxDepth
  rw [run_equalIn_struct w 9999 74 _ _ (by kernel_rfl) (by kernel_rfl)]
  have p0 : ∀ (x y : Int) (w : World), (part 3 #[i64 x, i64 y] 0).run Try.prog w = .ok (i64 x) w := fun x y w => by kernel_rfl
  have p1 : ∀ (x y : Int) (w : World), (part 3 #[i64 x, i64 y] 1).run Try.prog w = .ok (i64 y) w := fun x y w => by kernel_rfl
  have hq := eqInt 9998
  rcases a with ⟨a1, a2⟩
  rcases b with ⟨b1, b2⟩
  simp only [Program.fieldsOf, Try.underlying74]
  by_cases h1 : a1 = b1 <;> by_cases h2 : a2 = b2 <;> simp [Op.eqFields, p0, p1, hq, h1, h2, Result.andThen]
theorem zero38 (w : World) : (zeroValue 38).run Try.prog w = .ok (ev 0 0 0 0 0) w := by kernel_rfl
theorem stays (k : K) (w : World) : (Instr.keyThatStays (keyV k) (keyV k)).run Try.prog w = .ok (keyV k) w := by
  unfold Instr.keyThatStays
  have : Instr.sameBits 10000 (keyV k) (keyV k) = true := by simp [Instr.sameBits]
  simp [this]
theorem asking (k : K) : ∀ (es : List MapEntry) (i : Nat) (w : World), (∀ x ∈ es, ∃ a, x.key = keyV a) →
    ((Instr.findAsking 74 (keyV k) es i).run Try.prog w = .ok none w ∧ ∀ x ∈ es, x.key ≠ keyV k) ∨ ∃ j e, (Instr.findAsking 74 (keyV k) es i).run Try.prog w = .ok (some (i + j, e.val)) w ∧ es[j]? = some e ∧ e.key = keyV k
  | [], i, w, _ => Or.inl ⟨rfl, fun x hx => by cases hx⟩
  | x :: es, i, w, h => by
    obtain ⟨a, ha⟩ := h x (by simp)
    by_cases hk : k = a
    · subst hk
      refine Or.inr ⟨0, x, ?_, rfl, ha⟩
      simp [Instr.findAsking, ha, eql, Result.andThen]
    · rcases asking k es (i + 1) w (fun y hy => h y (by simp [hy])) with ⟨h1, h2⟩ | ⟨j, e, h1, h2, h3⟩
      · refine Or.inl ⟨?_, ?_⟩
        · simp [Instr.findAsking, ha, eql, hk, Result.andThen, h1]
        · intro y hy
          rcases List.mem_cons.1 hy with rfl | hy
          · rw [ha]; exact fun e => hk (keyV_inj e).symm
          · exact h2 y hy
      · refine Or.inr ⟨j + 1, e, ?_, by simpa using h2, h3⟩
        simp [Instr.findAsking, ha, eql, hk, Result.andThen, h1]
        omega

theorem finds (k : K) (es : List MapEntry) (w : World) (h : ∀ x ∈ es, ∃ a, x.key = keyV a) :
    ((Instr.findKey 74 (keyV k) es).run Try.prog w = .ok none w ∧ ∀ x ∈ es, x.key ≠ keyV k) ∨ ∃ j e, (Instr.findKey 74 (keyV k) es).run Try.prog w = .ok (some (j, e.val)) w ∧ es[j]? = some e ∧ e.key = keyV k := by
  cases es with
  | nil => exact Or.inl ⟨by simp [Instr.findKey, run_underlying Try.underlying74, Instr.findNow, Result.andThen], fun x hx => by cases hx⟩
  | cons x es =>
    have e1 : (Instr.findKey 74 (keyV k) (x :: es)).run Try.prog w = (Instr.findAsking 74 (keyV k) (x :: es) 0).run Try.prog w := by
      simp [Instr.findKey, run_underlying Try.underlying74, Instr.findNow, Instr.sameNow, Result.andThen]
    rw [e1]
    rcases asking k (x :: es) 0 w h with h1 | ⟨j, e, h1, h2, h3⟩
    · exact Or.inl h1
    · exact Or.inr ⟨j, e, by simpa using h1, h2, h3⟩


/-- Block b is a map that holds just what S holds. -/
def MapIs (w : World) (b : Nat) (S : St) : Prop := ∃ es clock, w.heap[b]? = some (.map es clock) ∧ (∀ x ∈ es.toList, ∃ k t, S k = some t ∧ x.key = keyV k ∧ x.val = entV k t) ∧ (∀ k t, S k = some t → ∃ x ∈ es.toList, x.key = keyV k ∧ x.val = entV k t) ∧ es.toList.Pairwise (fun x y => x.key ≠ y.key)
theorem MapIs.lt {w : World} {b : Nat} {S : St} (h : MapIs w b S) : b < w.heap.size := by
  obtain ⟨es, clock, hb, _⟩ := h
  exact (Array.getElem?_eq_some_iff.1 hb).1
theorem MapIs.kept {w w' : World} {b : Nat} {S : St} (h : MapIs w b S) (hb : w'.heap[b]? = w.heap[b]?) : MapIs w' b S := by
  obtain ⟨es, clock, h1, h2⟩ := h
  exact ⟨es, clock, hb.trans h1, h2⟩
def noSt : St := fun _ => none
theorem MapIs.made (w : World) : MapIs (w.alloc (.map #[] 0)) w.heap.size noSt := ⟨#[], 0, heap_last w _, by simp, fun k t h => (by cases h), by simp⟩
def lkE (k : K) : Option Tr → Value
  | none => ev 0 0 0 0 0
  | some t => entV k t
def lookR (S : St) (k : K) : Value := .tuple #[lkE k (S k), .bool (S k).isSome]
theorem MapIs.lkup {w : World} {b : Nat} {S : St} (h : MapIs w b S) (k : K) : (Instr.lookup 59 (.map (some b)) (keyV k) true).run Try.prog w = .ok (lookR S k) w := by
  obtain ⟨es, clock, hb, h1, h2, h3⟩ := h
  have hk : ∀ x ∈ es.toList, ∃ a, x.key = keyV a := fun x hx => by obtain ⟨k, t, _, e, _⟩ := h1 x hx; exact ⟨k, e⟩
  rcases finds k es.toList w hk with ⟨f1, f2⟩ | ⟨j, e, f1, f2, f3⟩
  · have : S k = none := by
      cases hs : S k with
      | none => rfl
      | some t =>
        obtain ⟨x, hx, hxk, _⟩ := h2 k t hs
        exact absurd hxk (f2 x hx)
    unfold lookR
    rw [this]
    simp [Instr.lookup, run_underlying Try.underlying59, MapKept.run_getObj_map hb, chk, f1, Result.andThen]
    rfl
  · obtain ⟨q, t, hs, e1, e2⟩ := h1 e (List.mem_of_getElem? f2)
    obtain rfl : q = k := keyV_inj (e1.symm.trans f3)
    unfold lookR
    rw [hs]
    simp [Instr.lookup, run_underlying Try.underlying59, MapKept.run_getObj_map hb, chk, f1, e2, Result.andThen, lkE]
theorem look_nilmap (w : World) (k : K) : (Instr.lookup 59 (.map none) (keyV k) true).run Try.prog w = .ok (lookR noSt k) w := by
  have f1 : (Instr.findKey 74 (keyV k) []).run Try.prog w = .ok none w := by
    rcases finds k [] w (fun x hx => by cases hx) with h | ⟨j, e, _, h, _⟩
    · exact h.1
    · simp at h
  simp [Instr.lookup, run_underlying Try.underlying59, chk, f1, Result.andThen, lookR, noSt]
  rfl
theorem touch_setBlock {w : World} {b : Nat} {es : Array MapEntry} {clock : Nat} {o' : Obj} (h : w.heap[b]? = some (.map es clock)) : Touch b w (setBlock w b o') :=
  ⟨rfl, rfl, rfl, by simp [setBlock], fun k _ hk => heap_setBlock_other h _ hk⟩
def upd (S : St) (k : K) (x : Option Tr) : St := fun j => if j = k then x else S j
theorem upd_same (S : St) (k : K) (x : Option Tr) : upd S k x k = x := if_pos rfl
theorem upd_other (S : St) (k j : K) (x : Option Tr) (h : j ≠ k) : upd S k x j = S j := if_neg h
theorem upd_some {S : St} {k j : K} {t t' : Tr} (h : upd S k (some t) j = some t') : (j = k ∧ t' = t) ∨ (j ≠ k ∧ S j = some t') := by
  by_cases hj : j = k
  · subst hj
    rw [upd_same] at h
    exact .inl ⟨rfl, (Option.some.inj h).symm⟩
  · rw [upd_other _ _ _ _ hj] at h
    exact .inr ⟨hj, h⟩
theorem upd_none {S : St} {k j : K} {t' : Tr} (h : upd S k none j = some t') : j ≠ k ∧ S j = some t' := by
  by_cases hj : j = k
  · subst hj
    rw [upd_same] at h
    cases h
  · rw [upd_other _ _ _ _ hj] at h
    exact ⟨hj, h⟩
theorem MapIs.put {w : World} {b : Nat} {S : St} (h : MapIs w b S) (k : K) (t : Tr) :
    ∃ w', (Instr.mapUpdate 59 (.map (some b)) (keyV k) (entV k t)).run Try.prog w = .ok () w' ∧ MapIs w' b (upd S k (some t)) ∧ Touch b w w' := by
  obtain ⟨es, clock, hb, h1, h2, h3⟩ := h
  have hk : ∀ x ∈ es.toList, ∃ a, x.key = keyV a := fun x hx => by obtain ⟨k, t, _, e, _⟩ := h1 x hx; exact ⟨k, e⟩
  rcases finds k es.toList w hk with ⟨f1, f2⟩ | ⟨j, e0, f1, f2, f3⟩
  · refine ⟨setBlock w b (.map (es.push ⟨keyV k, entV k t, clock⟩) (clock + 1)), ?_, ⟨_, _, heap_setBlock_same hb _, ?_, ?_, ?_⟩, touch_setBlock hb⟩
    · simp [Instr.mapUpdate, run_underlying Try.underlying59, MapKept.run_getObj_map hb, chk, f1, MapKept.run_setObj_map _ hb, Result.andThen, setBlock]
    · intro x hx
      simp only [Array.toList_push, List.mem_append, List.mem_singleton] at hx
      rcases hx with hx | rfl
      · obtain ⟨q, u, hs, e1, e2⟩ := h1 x hx
        have hne : q ≠ k := fun he => f2 x hx (by rw [e1, he])
        exact ⟨q, u, (upd_other _ _ _ _ hne).trans hs, e1, e2⟩
      · exact ⟨k, t, upd_same _ _ _, rfl, rfl⟩
    · intro q u hq
      rcases upd_some hq with ⟨rfl, rfl⟩ | ⟨_, hq⟩
      · exact ⟨⟨keyV q, entV q u, clock⟩, by simp, rfl, rfl⟩
      · obtain ⟨x, hx, e1⟩ := h2 q u hq
        exact ⟨x, by simp [hx], e1⟩
    · rw [Array.toList_push, List.pairwise_append]
      refine ⟨h3, by simp, fun x hx y hy => ?_⟩
      simp at hy
      subst hy
      exact f2 x hx
  · have hj : es[j]? = some e0 := by simpa using f2
    have hjl : j < es.toList.length := (List.getElem?_eq_some_iff.1 f2).1
    have hlist : (es.modify j (fun e' => { e' with key := keyV k, val := entV k t })).toList = es.toList.set j { e0 with key := keyV k, val := entV k t } := by rw [Array.toList_modify, modify_eq_set _ _ _ _ f2]
    have hkj : es.toList[j].key = keyV k := by rw [List.getElem?_eq_getElem hjl] at f2; rw [Option.some.inj f2]; exact f3
    have who : ∀ x ∈ es.toList.set j { e0 with key := keyV k, val := entV k t }, x = { e0 with key := keyV k, val := entV k t } ∨ (x ∈ es.toList ∧ x.key ≠ keyV k) := by
      intro x hx
      obtain ⟨i, hi, ex⟩ := List.getElem_of_mem hx
      rw [List.getElem_set] at ex
      split at ex
      · exact Or.inl ex.symm
      · rename_i hne
        have hi' : i < es.toList.length := by simpa using hi
        refine Or.inr ⟨ex ▸ List.getElem_mem hi', ?_⟩
        rw [← ex]
        rcases Nat.lt_or_gt_of_ne hne with hlt | hlt
        · exact fun he => List.pairwise_iff_getElem.1 h3 j i hjl hi' hlt (hkj.trans he.symm)
        · exact fun he => List.pairwise_iff_getElem.1 h3 i j hi' hjl hlt (he.trans hkj.symm)
    refine ⟨setBlock w b (.map (es.modify j (fun e' => { e' with key := keyV k, val := entV k t })) clock), ?_, ⟨_, _, heap_setBlock_same hb _, ?_, ?_, ?_⟩, touch_setBlock hb⟩
    · simp [Instr.mapUpdate, run_underlying Try.underlying59, MapKept.run_getObj_map hb, chk, f1, hj, f3, stays, MapKept.run_setObj_map _ hb, Result.andThen, setBlock]
    · intro x hx
      rw [hlist] at hx
      rcases who x hx with rfl | ⟨hx, hne⟩
      · exact ⟨k, t, upd_same _ _ _, rfl, rfl⟩
      · obtain ⟨q, u, hs, e1, e2⟩ := h1 x hx
        have hqk : q ≠ k := fun he => hne (by rw [e1, he])
        exact ⟨q, u, (upd_other _ _ _ _ hqk).trans hs, e1, e2⟩
    · intro q u hq
      rw [hlist]
      rcases upd_some hq with ⟨rfl, rfl⟩ | ⟨hqk, hq⟩
      · exact ⟨{ e0 with key := keyV q, val := entV q u }, List.mem_iff_getElem.2 ⟨j, by simpa using hjl, by simp⟩, rfl, rfl⟩
      · obtain ⟨x, hx, e1, e2⟩ := h2 q u hq
        obtain ⟨i, hi, ex⟩ := List.getElem_of_mem hx
        refine ⟨x, ?_, e1, e2⟩
        have hij : j ≠ i := fun he => by
          subst he
          rw [ex, e1] at hkj
          exact hqk (keyV_inj hkj)
        rw [List.mem_iff_getElem]
        exact ⟨i, by simpa using hi, by rw [List.getElem_set_ne hij]; exact ex⟩
    · rw [hlist]
      rw [List.pairwise_iff_getElem]
      intro a c ha hc hac
      have ha' : a < es.toList.length := by simpa using ha
      have hc' : c < es.toList.length := by simpa using hc
      have hp := List.pairwise_iff_getElem.1 h3 a c ha' hc' hac
      rw [List.getElem_set, List.getElem_set]
      split
      · rename_i hja
        subst hja
        rw [if_neg (by omega)]
        exact fun he => hp (hkj.trans he)
      · split
        · rename_i hjc
          subst hjc
          exact fun he => hp (he.trans hkj.symm)
        · exact hp
theorem MapIs.del {w : World} {b : Nat} {S : St} (h : MapIs w b S) (k : K) :
    ∃ w', (∀ ty, (Builtin.delete_ #[59, 74] ty #[.map (some b), keyV k]).run Try.prog w = .ok (.tuple #[]) w') ∧ MapIs w' b (upd S k none) ∧ Touch b w w' := by
  obtain ⟨es, clock, hb, h1, h2, h3⟩ := h
  have hk : ∀ x ∈ es.toList, ∃ a, x.key = keyV a := fun x hx => by obtain ⟨k, t, _, e, _⟩ := h1 x hx; exact ⟨k, e⟩
  rcases finds k es.toList w hk with ⟨f1, f2⟩ | ⟨j, e0, f1, f2, f3⟩
  · refine ⟨setBlock w b (.map es clock), ?_, ⟨_, _, heap_setBlock_same hb _, ?_, ?_, h3⟩, touch_setBlock hb⟩
    · intro ty
      simp [Builtin.delete_, run_underlying Try.underlying59, MapKept.run_getObj_map hb, chk, f1, MapKept.run_setObj_map _ hb, Result.andThen, setBlock]
    · intro x hx
      obtain ⟨q, u, hs, e1, e2⟩ := h1 x hx
      have hqk : q ≠ k := fun he => f2 x hx (by rw [e1, he])
      exact ⟨q, u, (upd_other _ _ _ _ hqk).trans hs, e1, e2⟩
    · intro q u hq
      exact h2 q u (upd_none hq).2
  · have hjl : j < es.toList.length := (List.getElem?_eq_some_iff.1 f2).1
    have hjs : j < es.size := by simpa using hjl
    have he0 : es.toList[j] = e0 := by rw [List.getElem?_eq_getElem hjl] at f2; exact Option.some.inj f2
    have hsub : (es.eraseIdxIfInBounds j).toList = es.toList.eraseIdx j := by
      unfold Array.eraseIdxIfInBounds
      rw [dif_pos hjs]
      simp
    refine ⟨setBlock w b (.map (es.eraseIdxIfInBounds j) clock), ?_, ⟨_, _, heap_setBlock_same hb _, ?_, ?_, ?_⟩, touch_setBlock hb⟩
    · intro ty
      simp [Builtin.delete_, run_underlying Try.underlying59, MapKept.run_getObj_map hb, chk, f1, MapKept.run_setObj_map _ hb, Result.andThen, setBlock]
    · intro x hx
      rw [hsub] at hx
      obtain ⟨i, hne, hi⟩ := List.mem_eraseIdx_iff_getElem?.1 hx
      have hx' := List.mem_of_getElem? hi
      obtain ⟨q, u, hs, e1, e2⟩ := h1 x hx'
      have hqk : q ≠ k := fun he => by
        have hil : i < es.toList.length := (List.getElem?_eq_some_iff.1 hi).1
        have hxi : es.toList[i] = x := by rw [List.getElem?_eq_getElem hil] at hi; exact Option.some.inj hi
        have hkk : es.toList[i].key = es.toList[j].key := by rw [hxi, he0, f3, e1, he]
        rcases Nat.lt_or_gt_of_ne hne with hlt | hlt
        · exact List.pairwise_iff_getElem.1 h3 i j hil hjl hlt hkk
        · exact List.pairwise_iff_getElem.1 h3 j i hjl hil hlt hkk.symm
      exact ⟨q, u, (upd_other _ _ _ _ hqk).trans hs, e1, e2⟩
    · intro q u hq
      obtain ⟨hqk, hq⟩ := upd_none hq
      obtain ⟨x, hx, e1, e2⟩ := h2 q u hq
      refine ⟨x, ?_, e1, e2⟩
      rw [hsub, List.mem_eraseIdx_iff_getElem?]
      obtain ⟨i, hi, ex⟩ := List.getElem_of_mem hx
      refine ⟨i, fun he => ?_, by rw [List.getElem?_eq_getElem hi, ex]⟩
      subst he
      rw [he0] at ex
      subst ex
      exact hqk (keyV_inj (e1.symm.trans f3))
    · rw [hsub]
      exact h3.sublist (List.eraseIdx_sublist _ _)
end Go.Proofs.Ytdgkajhlofpdeaa
