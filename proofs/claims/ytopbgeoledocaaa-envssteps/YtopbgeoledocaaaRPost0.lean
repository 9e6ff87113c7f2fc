/- imagoref13.Table's Post: its contract; no statement is proved in this text. -/
import Derived.Test.YtopbgeoledocaaaRClose
namespace Go.Proofs.Ytopbgeoledocaaa
open Go.ChangeShapes Go.WideShapes Go.ChangeAt Go.RowKit Go.Deep
attribute [local go_sem ↓] Go.wp_at_zero Go.wp_at_succ

theorem under39 : Try.prog.underlying 39 = some (.slice 60) := by kernel_rfl
theorem info60x : (Try.prog.info? 60).map (fun i => (i.zero, i.size, i.bytes)) = some (some (.agg #[i64 0, i64 0]), 2, 16) := by kernel_rfl
abbrev ruO (k x : Int) : Obj := .cells #[i64 k, i64 x] 60
abbrev rnO (p : Rn) : Obj := .cells #[i64 p.n, i64 p.ver, p.v, i64 p.fr, i64 p.tk] 41
theorem own_setg {w : World} {base : Nat} {e : TypeId} {size n m cap g : Nat} {xs : List Value} (h : w.ownsRow base e size (.slice (some ⟨g, 0, none⟩) n cap) m xs) {i : Nat} (v : Value) : (w.setCell ⟨g, i, none⟩ v).ownsRow base e size (.slice (some ⟨g, 0, none⟩) n cap) m (xs.set i v) := by
  obtain ⟨hl, h3⟩ := h
  rcases h3 with ⟨hn, _⟩ | ⟨g', cap', cur, he, hbg, hgg, hc1, hc2, hc3, htk⟩
  · simp at hn
  · simp only [Value.slice.injEq, Option.some.injEq, Addr.mk.injEq] at he
    obtain ⟨⟨rfl, _⟩, hnm, rfl⟩ := he
    refine ⟨by rw [List.length_set]; exact hl, .inr ⟨g, cap, _, by rw [hnm], hbg, heap_setCell_same w g _ _ e _ hgg, hc1, hc2, by simpa using hc3, ?_⟩⟩
    rw [← htk, Array.toList_setIfInBounds, List.take_set]
/-- Five cells set. -/
abbrev set5 (w : World) (g o : Nat) (a b c d e : Value) : World := ((((w.setCell ⟨g, o, none⟩ a).setCell ⟨g, o + 1, none⟩ b).setCell ⟨g, o + 2, none⟩ c).setCell ⟨g, o + 3, none⟩ d).setCell ⟨g, o + 4, none⟩ e
theorem set5_other (w : World) (g o : Nat) (a b c d e : Value) (k : Nat) (h : k ≠ g) : (set5 w g o a b c d e).heap[k]? = w.heap[k]? := by
  unfold set5
  rw [Below.heap_setCell _ _ _ _ h, Below.heap_setCell _ _ _ _ h, Below.heap_setCell _ _ _ _ h, Below.heap_setCell _ _ _ _ h, Below.heap_setCell _ _ _ _ h]
theorem rcs_set5 (L : List Rn) (k : Nat) (p p' : Rn) (hp : L[k]? = some p) : (((((rcs L).set (k * 5) (i64 p'.n)).set (k * 5 + 1) (i64 p'.ver)).set (k * 5 + 2) p'.v).set (k * 5 + 3) (i64 p'.fr)).set (k * 5 + 4) (i64 p'.tk) = rcs (L.set k p') := by
  have hk : k < L.length := (List.getElem?_eq_some_iff.1 hp).1
  have g : ∀ (q : Rn), (L.set k q)[k]? = some q := fun q => List.getElem?_set_self hk
  have e0 : (rcs L).set (k * 5) (i64 p'.n) = rcs (L.set k { p with n := p'.n }) := rcs_set L k 0 p _ _ hp (by omega) rfl
  have e1 : (rcs (L.set k { p with n := p'.n })).set (k * 5 + 1) (i64 p'.ver) = rcs ((L.set k { p with n := p'.n }).set k { p with n := p'.n, ver := p'.ver }) := rcs_set _ k 1 _ _ _ (g _) (by omega) rfl
  rw [e0, e1, List.set_set]
  have e2 : (rcs (L.set k { p with n := p'.n, ver := p'.ver })).set (k * 5 + 2) p'.v = rcs ((L.set k { p with n := p'.n, ver := p'.ver }).set k { p with n := p'.n, ver := p'.ver, v := p'.v, all := p'.all }) := rcs_set _ k 2 _ _ _ (g _) (by omega) rfl
  rw [e2, List.set_set]
  have e3 : (rcs (L.set k { p with n := p'.n, ver := p'.ver, v := p'.v, all := p'.all })).set (k * 5 + 3) (i64 p'.fr) = rcs ((L.set k { p with n := p'.n, ver := p'.ver, v := p'.v, all := p'.all }).set k { p with n := p'.n, ver := p'.ver, v := p'.v, all := p'.all, fr := p'.fr }) := rcs_set _ k 3 _ _ _ (g _) (by omega) rfl
  rw [e3, List.set_set]
  have e4 : (rcs (L.set k { p with n := p'.n, ver := p'.ver, v := p'.v, all := p'.all, fr := p'.fr })).set (k * 5 + 4) (i64 p'.tk) = rcs ((L.set k { p with n := p'.n, ver := p'.ver, v := p'.v, all := p'.all, fr := p'.fr }).set k p') := rcs_set _ k 4 _ _ _ (g _) (by omega) rfl
  rw [e4, List.set_set]
theorem Rb.full {w w2 : World} {base r : Nat} {L : List Rn} {g k n cap : Nat} {p p' : Rn} (h : Rb w base r L) (hb : w.heap[r]? = some (.cells #[.slice (some ⟨g, 0, none⟩) n cap] 29)) (hp : L[k]? = some p)
    (hk : ∀ (j : Nat) (C : Array Value) (t : TypeId), w.heap[j]? = some (.cells C t) → (t = 29 ∨ t = 41) → w2.heap[j]? = some (.cells C t))
    (hoth : ∀ j, j < w.heap.size → some j ≠ p.v.ownBlock → w2.heap[j]? = w.heap[j]?) (hnew : w2.ownsRow base 60 2 p'.v p'.all.length (ucn p'.all)) (hbl : p'.v.ownBlock = p.v.ownBlock ∨ ∃ j, w.heap.size ≤ j ∧ p'.v.ownBlock = some j) :
    Rb (set5 w2 g (k * 5) (i64 p'.n) (i64 p'.ver) p'.v (i64 p'.fr) (i64 p'.tk)) base r (L.set k p') ∧ (∃ C, w2.heap[g]? = some (.cells C 41) ∧ base ≤ g) := by
  obtain ⟨v, h1, h2⟩ := h.own
  rw [hb] at h1
  simp only [Option.some.injEq, Obj.cells.injEq, Array.mk.injEq, List.cons.injEq, and_true] at h1
  have hkL : k < L.length := (List.getElem?_eq_some_iff.1 hp).1
  subst h1
  have h3 : w2.ownsRow base 41 5 (.slice (some ⟨g, 0, none⟩) n cap) L.length (rcs L) := own_keep h2 (fun j C hC => hk j C 41 hC (.inr rfl))
  have hb2 := hk r _ 29 hb (.inl rfl)
  have hgg : ∃ C, w2.heap[g]? = some (.cells C 41) ∧ base ≤ g := by
    rcases h3.2 with ⟨hn, _⟩ | ⟨g', cap', cur, he, hbg, hgg, _⟩
    · simp at hn
    · simp only [Value.slice.injEq, Option.some.injEq, Addr.mk.injEq] at he
      obtain ⟨⟨rfl, _⟩, _, rfl⟩ := he
      exact ⟨cur, hgg, hbg⟩
  obtain ⟨C0, hC0, hbg⟩ := hgg
  have hgr : r ≠ g := fun e => by rw [← e, hb2] at hC0; simp at hC0
  have h60 : ∀ (j : Nat) (C : Array Value), w2.heap[j]? = some (.cells C 60) → j ≠ g := fun j C hC e => by rw [e, hC0] at hC; simp at hC
  refine ⟨⟨h.lo, ⟨.slice (some ⟨g, 0, none⟩) n cap, by rw [set5_other _ _ _ _ _ _ _ _ _ hgr]; exact hb2, ?_⟩, ?_, ?_⟩, C0, hC0, hbg⟩
  · rw [List.length_set, ← rcs_set5 L k p p' hp]
    exact own_setg (own_setg (own_setg (own_setg (own_setg h3 _) _) _) _) _
  · intro i q hq
    by_cases hik : k = i
    · subst hik
      rw [List.getElem?_set_self hkL] at hq
      cases hq
      exact own_keep hnew (fun j C hC => by rw [set5_other _ _ _ _ _ _ _ _ _ (h60 j C hC)]; exact hC)
    · rw [List.getElem?_set_ne hik] at hq
      have ho := h.all i q hq
      refine own_keep1 (own_keep1 (w' := w2) ho (fun j hj => ?_)) (fun j hj => ?_)
      · have hjl := (ho.lt j hj).2
        exact hoth j (by omega) (fun e => h.dis k i p q hp hq hik j e.symm hj)
      · rcases ho.2 with ⟨hn, _⟩ | ⟨g', cap', cur, he, _, hg', _⟩
        · rw [hn] at hj; simp [Value.ownBlock] at hj
        · rw [he] at hj
          simp [Value.ownBlock] at hj
          subst hj
          refine set5_other _ _ _ _ _ _ _ _ _ (h60 _ cur ?_)
          rw [hoth _ (blk_lt hg') (fun e => h.dis k i p q hp hq hik g' e.symm (by rw [he]; rfl))]
          exact hg'
  · have hold : ∀ (i : Nat) q, L[i]? = some q → ∀ j, q.v.ownBlock = some j → j < w.heap.size := fun i q hq j hj => by have := ((h.all i q hq).lt j hj).2; omega
    intro i i' q q' hq hq' hne j hj
    by_cases hik : k = i
    · subst hik
      rw [List.getElem?_set_self hkL] at hq
      cases hq
      rw [List.getElem?_set_ne hne] at hq'
      rcases hbl with hbl | ⟨j2, hj2, hbl⟩
      · rw [hbl] at hj
        exact h.dis k i' p q' hp hq' hne j hj
      · rw [hbl] at hj
        cases hj
        exact fun e => by have := hold i' q' hq' _ e; omega
    · rw [List.getElem?_set_ne hik] at hq
      by_cases hik' : k = i'
      · subst hik'
        rw [List.getElem?_set_self hkL] at hq'
        cases hq'
        rcases hbl with hbl | ⟨j2, hj2, hbl⟩
        · rw [hbl]
          exact h.dis i k q p hq hp hne j hj
        · rw [hbl]
          intro e
          cases e
          have := hold i q hq _ hj
          omega
      · rw [List.getElem?_set_ne hik'] at hq'
        exact h.dis i i' q q' hq hq' hne j hj
theorem rpost_none {w : World} {base r : Nat} {L : List Rn} (h : Rb w base r L) (hl : L.length ≤ 3) (n kd x : Int) (hi : atI L n = -1) :
    Calls Try.prog 25 #[pq r, i64 n, .agg #[i64 kd, i64 x]] w fun e w' => e = .returned (i64 6) ∧ Below w.heap.size w w' := by
  have HA := rat_ok (h.below (below_one w (ruO kd x))) hl n
  rw [hi] at HA
  have HA := hid HA
  have HB : Hid (Below w.heap.size w (w.alloc (ruO kd x))) := below_one w _
  clear h hi hl
  go_enter Try.func25, Try.ntmps25
  go_wp2_with fail
  refine HA.out.mono ?_
  rintro e w1 ⟨rfl, hb1⟩
  have HB1 : Hid (Below w.heap.size w w1) := HB.out.trans (hb1.mono HB.out.size)
  clear hb1
  go_wp2_with fail
  go_ret
  exact ⟨rfl, HB1.out⟩
theorem rpost_arg {w : World} {base r : Nat} {L : List Rn} (h : Rb w base r L) (hl : L.length ≤ 3) (n kd x : Int) (k : Nat) (hi : atI L n = k) (hk : kd < 1 ∨ 3 < kd) :
    Calls Try.prog 25 #[pq r, i64 n, .agg #[i64 kd, i64 x]] w fun e w' => e = .returned (i64 1) ∧ Below w.heap.size w w' := by
  have HA := rat_ok (h.below (below_one w (ruO kd x))) hl n
  rw [hi] at HA
  have HA := hid HA
  have HB : Hid (Below w.heap.size w (w.alloc (ruO kd x))) := below_one w _
  have HX : Hid ((w.alloc (ruO kd x)).heap[w.heap.size]? = some (ruO kd x)) := heap_last w _
  clear h hi hl
  rcases hk with hk | hk
  · go_enter Try.func25, Try.ntmps25
    go_wp2_with fail
    refine HA.out.mono ?_
    rintro e w1 ⟨rfl, hb1⟩
    have x0 : w1.cell? ⟨w.heap.size, 0, none⟩ = some (i64 kd) := blk_cell (blk_below HX.out hb1) 0
    have HB1 : Hid (Below w.heap.size w w1) := HB.out.trans (hb1.mono HB.out.size)
    clear hb1
    go_wp2_with fail
    go_ret
    exact ⟨rfl, HB1.out⟩
  · have hk1 : ¬ kd < 1 := by omega
    go_enter Try.func25, Try.ntmps25
    go_wp2_with fail
    refine HA.out.mono ?_
    rintro e w1 ⟨rfl, hb1⟩
    have x0 : w1.cell? ⟨w.heap.size, 0, none⟩ = some (i64 kd) := blk_cell (blk_below HX.out hb1) 0
    have HB1 : Hid (Below w.heap.size w w1) := HB.out.trans (hb1.mono HB.out.size)
    clear hb1
    go_wp2_with fail
    go_ret
    exact ⟨rfl, HB1.out⟩
end Go.Proofs.Ytopbgeoledocaaa
