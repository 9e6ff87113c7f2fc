/- imagoref13.Table's Open, Close, Change: contracts; no statement is proved in this text. -/
import Derived.Test.YtopbgeoledocaaaRDoc
namespace Go.Proofs.Ytopbgeoledocaaa
open Go.ChangeShapes Go.WideShapes Go.ChangeAt Go.RowKit Go.Deep
attribute [local go_sem ↓] Go.wp_at_zero Go.wp_at_succ

theorem under27 : Try.prog.underlying 27 = some (.slice 41) := by kernel_rfl
theorem info41x : (Try.prog.info? 41).map (fun i => (i.zero, i.size, i.bytes)) = some (some (.agg #[i64 0, i64 0, .slice none 0 0, i64 0, i64 0]), 5, 56) := by kernel_rfl
theorem set_len {L : List Rn} {k : Nat} {p : Rn} : (L.set k p).length = L.length := List.length_set
theorem Rb.put {w : World} {base r : Nat} {L : List Rn} {g k j n cap : Nat} {p p' : Rn} {x : Value} (h : Rb w base r L) (hb : w.heap[r]? = some (.cells #[.slice (some ⟨g, 0, none⟩) n cap] 29)) (hp : L[k]? = some p) (hj : j < 5) (hl : p.l.set j x = p'.l) (hv : p'.v = p.v) (ha : p'.all = p.all) : Rb (w.setCell ⟨g, k * 5 + j, none⟩ x) base r (L.set k p') ∧ Fr base [29, 41] w (w.setCell ⟨g, k * 5 + j, none⟩ x) := by
  obtain ⟨v, h1, h2⟩ := h.own
  rw [hb] at h1
  simp only [Option.some.injEq, Obj.cells.injEq, Array.mk.injEq, List.cons.injEq, and_true] at h1
  have hk : k < L.length := (List.getElem?_eq_some_iff.1 hp).1
  subst h1
  obtain ⟨hlen, h3⟩ := h2
  rcases h3 with ⟨hn, _⟩ | ⟨g', cap', cur, he, hbg, hgg, hc1, hc2, hc3, htk⟩
  · simp at hn
  · simp only [Value.slice.injEq, Option.some.injEq, Addr.mk.injEq] at he
    obtain ⟨⟨rfl, _⟩, hn, rfl⟩ := he
    have hgr : r ≠ g := fun e => by rw [e, hgg] at hb; simp at hb
    have hset : ∀ (i : Nat) q, (L.set k p')[i]? = some q → ∃ q0, L[i]? = some q0 ∧ q.v = q0.v ∧ q.all = q0.all := fun i q hq => by
      by_cases hik : k = i
      · subst hik
        rw [List.getElem?_set_self hk] at hq
        cases hq
        exact ⟨p, hp, hv, ha⟩
      · rw [List.getElem?_set_ne hik] at hq
        exact ⟨q, hq, rfl, rfl⟩
    refine ⟨⟨h.lo, ⟨.slice (some ⟨g, 0, none⟩) n cap, by rw [Below.heap_setCell _ _ _ _ (by exact hgr)]; exact hb, ?_, ?_⟩, ?_, ?_⟩, ?_⟩
    · rw [List.length_set, rcs_len, List.length_set]
    · refine .inr ⟨g, cap, _, by rw [List.length_set, hn], hbg, heap_setCell_same w g _ _ 41 _ hgg, by rw [List.length_set]; exact hc1, hc2, by simpa using hc3, ?_⟩
      rw [List.length_set]
      have e1 : (rcs L).set (k * 5 + j) x = rcs (L.set k p') := rcs_set L k j p p' _ hp hj hl
      rw [← e1, ← htk, Array.toList_setIfInBounds, List.take_set]
    · intro i q hq
      obtain ⟨q0, hq0, e1, e2⟩ := hset i q hq
      rw [e1, e2]
      refine own_keep (h.all i q0 hq0) (fun k' C hC => ?_)
      rw [Below.heap_setCell _ _ _ _ (fun e => ?_)]
      · exact hC
      · rw [show k' = g from e, hgg] at hC
        simp at hC
    · intro i i' q q' hq hq' hne k' hk'
      obtain ⟨q0, hq0, e1, _⟩ := hset i q hq
      obtain ⟨q1, hq1, e2, _⟩ := hset i' q' hq'
      rw [e1] at hk'
      rw [e2]
      exact h.dis i i' q0 q1 hq0 hq1 hne k' hk'
    · exact Fr.of_touch ((Touch.refl g w).setCell rfl _) hgg (by rfl) hbg
theorem rchange_none {w : World} {base r : Nat} {L : List Rn} (h : Rb w base r L) (hl : L.length ≤ 3) (n v : Int) (hi : atI L n = -1) :
    Calls Try.prog 24 #[pq r, i64 n, i64 v] w fun e w' => e = .returned (i64 6) ∧ Below w.heap.size w w' := by
  have HA := rat_ok h hl n
  rw [hi] at HA
  have HA := hid HA
  clear h hi hl
  go_enter Try.func24, Try.ntmps24
  go_wp2_with fail
  refine HA.out.mono ?_
  rintro e w1 ⟨rfl, hb1⟩
  have HB1 := hid hb1
  clear hb1
  go_wp2_with fail
  go_ret
  exact ⟨rfl, HB1.out⟩
theorem rchange_arg {w : World} {base r : Nat} {L : List Rn} (h : Rb w base r L) (hl : L.length ≤ 3) (n v : Int) (k : Nat) (hi : atI L n = k) (hv : v < 1 ∨ 2 < v) :
    Calls Try.prog 24 #[pq r, i64 n, i64 v] w fun e w' => e = .returned (i64 1) ∧ Below w.heap.size w w' := by
  have HA := rat_ok h hl n
  rw [hi] at HA
  have HA := hid HA
  clear h hi hl
  rcases hv with hv | hv
  · go_enter Try.func24, Try.ntmps24
    go_wp2_with fail
    refine HA.out.mono ?_
    rintro e w1 ⟨rfl, hb1⟩
    have HB1 := hid hb1
    clear hb1
    go_wp2_with fail
    go_ret
    exact ⟨rfl, HB1.out⟩
  · have hv1 : ¬ v < 1 := by omega
    go_enter Try.func24, Try.ntmps24
    go_wp2_with fail
    refine HA.out.mono ?_
    rintro e w1 ⟨rfl, hb1⟩
    have HB1 := hid hb1
    clear hb1
    go_wp2_with fail
    go_ret
    exact ⟨rfl, HB1.out⟩
set_option maxRecDepth 100000 in
set_option maxHeartbeats 2000000 in
theorem rchange_in {w : World} {base r : Nat} {L : List Rn} (h : Rb w base r L) (hl : L.length ≤ 3) (n v : Int) (k : Nat) (p : Rn) (hp : L[k]? = some p) (hi : atI L n = k) (hv : 1 ≤ v ∧ v ≤ 2) :
    Calls Try.prog 24 #[pq r, i64 n, i64 v] w fun e w' => e = .returned (i64 0) ∧ Rb w' base r (L.set k { p with ver := v }) ∧ Fr base [29, 41] w w' := by
  have HA := rat_ok h hl n
  rw [hi] at HA
  have HA := hid HA
  have HR := hid h
  have HP := hid hp
  have hkL : k < L.length := (List.getElem?_eq_some_iff.1 hp).1
  have hlo : base ≤ w.heap.size := by have := h.lt; have := h.lo; omega
  have g1 : ¬ v < 1 := by omega
  have g2 : ¬ 2 < v := by omega
  clear h hi hp hv
  go_enter Try.func24, Try.ntmps24
  go_wp2_with fail
  refine HA.out.mono ?_
  rintro e w1 ⟨rfl, hb1⟩
  obtain ⟨ao, cap, hbk, _, hcap, hrow⟩ := (HR.out.below hb1).row
  obtain ⟨g, rfl, hbg, hgl, hgr, hfz, hc⟩ := hrow k p HP.out
  have hput := (HR.out.below hb1).put (x := i64 v) (p' := { p with ver := v }) (j := 1) hbk HP.out (by omega) rfl rfl rfl
  have b0 : w1.cell? ⟨r, 0, none⟩ = some (.slice (some ⟨g, 0, none⟩) L.length cap) := blk_cell hbk 0
  have c1 : w1.cell? ⟨g, k * 5 + 1, none⟩ = some (i64 p.ver) := hc 1 (by omega)
  have hkI : (k : Int) < L.length := by omega
  have HF : Hid (Rb (w1.setCell ⟨g, k * 5 + 1, none⟩ (i64 v)) base r (L.set k { p with ver := v }) ∧ Fr base [29, 41] w (w1.setCell ⟨g, k * 5 + 1, none⟩ (i64 v))) := ⟨hput.1, (Fr.of_below _ hb1 hlo).trans hput.2⟩
  clear hb1 hrow hc hbk hput
  generalize hN : L.length = N at *
  clear hN
  go_wp2_with fail
  go_ret
  exact ⟨rfl, HF.out⟩
def nwR (n v : Int) : Rn := ⟨n, v, .slice none 0 0, [], 0, 0⟩
theorem rcs_one : ∀ (L : List Rn), (∀ (i : Nat) (p : Rn), L[i]? = some p → p.v.oneCell' = true) → ∀ u ∈ rcs L, u.oneCell' = true
  | [], _, u, hu => by simp [rcs] at hu
  | p :: r, h, u, hu => by
    rw [rcs, List.mem_append] at hu
    rcases hu with hu | hu
    · simp only [Rn.l, List.mem_cons, List.not_mem_nil, or_false] at hu
      rcases hu with rfl | rfl | rfl | rfl | rfl <;> first | rfl | exact h 0 p rfl
    · exact rcs_one r (fun i q hq => h (i + 1) q (by simpa using hq)) u hu
theorem own_cell1 {w : World} {base : Nat} {e : TypeId} {size : Nat} {v : Value} {n : Nat} {xs : List Value} (h : w.ownsRow base e size v n xs) : v.oneCell' = true := by
  obtain ⟨ao, cap, rfl, _⟩ := own_slice h
  rfl
theorem ropen_arg {w : World} {r : Nat} (n v : Int) (hv : n < 1 ∨ 3 < n ∨ v < 1 ∨ 2 < v) : Calls Try.prog 22 #[pq r, i64 n, i64 v] w fun e w' => e = .returned (i64 1) ∧ w' = w := by
  by_cases h1 : n < 1
  · go_enter Try.func22, Try.ntmps22
    go_wp2_with fail
    go_ret
    exact ⟨rfl, rfl⟩
  by_cases h2 : 3 < n
  · go_enter Try.func22, Try.ntmps22
    go_wp2_with fail
    go_ret
    exact ⟨rfl, rfl⟩
  by_cases h3 : v < 1
  · clear hv
    go_enter Try.func22, Try.ntmps22
    go_wp2_with fail
    go_ret
    exact ⟨rfl, rfl⟩
  have h4 : 2 < v := by omega
  clear hv
  go_enter Try.func22, Try.ntmps22
  go_wp2_with fail
  go_ret
  exact ⟨rfl, rfl⟩
theorem ropen_same {w : World} {base r : Nat} {L : List Rn} (h : Rb w base r L) (hl : L.length ≤ 3) (n v : Int) (k : Nat) (hi : atI L n = k) (h1 : 1 ≤ n ∧ n ≤ 3) (h2 : 1 ≤ v ∧ v ≤ 2) :
    Calls Try.prog 22 #[pq r, i64 n, i64 v] w fun e w' => e = .returned (i64 8) ∧ Below w.heap.size w w' := by
  have HA := rat_ok h hl n
  rw [hi] at HA
  have HA := hid HA
  have g1 : ¬ n < 1 := by omega
  have g2 : ¬ 3 < n := by omega
  have g3 : ¬ v < 1 := by omega
  have g4 : ¬ 2 < v := by omega
  clear h hi hl h1 h2
  go_enter Try.func22, Try.ntmps22
  go_wp2_with fail
  refine HA.out.mono ?_
  rintro e w1 ⟨rfl, hb1⟩
  have HB1 := hid hb1
  clear hb1
  go_wp2_with fail
  go_ret
  exact ⟨rfl, HB1.out⟩
set_option maxRecDepth 100000 in
set_option maxHeartbeats 2000000 in
theorem ropen_in {w : World} {base r : Nat} {L : List Rn} (h : Rb w base r L) (hl : L.length ≤ 3) (n v : Int) (hi : atI L n = -1) (h1 : 1 ≤ n ∧ n ≤ 3) (h2 : 1 ≤ v ∧ v ≤ 2) :
    Calls Try.prog 22 #[pq r, i64 n, i64 v] w fun e w' => e = .returned (i64 0) ∧ Rb w' base r (L ++ [nwR n v]) ∧ Fr base [29, 41] w w' := by
  have HA := rat_ok h hl n
  rw [hi] at HA
  have HA := hid HA
  have HR := hid h
  have hlo : base ≤ w.heap.size := by have := h.lt; have := h.lo; omega
  have g1 : ¬ n < 1 := by omega
  have g2 : ¬ 3 < n := by omega
  have g3 : ¬ v < 1 := by omega
  have g4 : ¬ 2 < v := by omega
  clear h hi h1 h2
  go_enter Try.func22, Try.ntmps22
  go_wp2_with fail
  refine HA.out.mono ?_
  rintro e w1 ⟨rfl, hb1⟩
  have hR1 := HR.out.below hb1
  obtain ⟨ao, cap, hbk, hown, hcap, _⟩ := hR1.row
  obtain ⟨ao2, cap2, w2, hrun, hown2, hfr2, _, _⟩ := app_far (te := 41) under27 info41x rfl (by omega) (by omega) hown (nwR n v).l rfl (fun u hu => by
    simp only [Rn.l, nwR, List.mem_cons, List.not_mem_nil, or_false] at hu
    rcases hu with rfl | rfl | rfl | rfl | rfl <;> rfl) (by omega) (by have := hb1.size; omega)
  have hbk2 : w2.heap[r]? = some (.cells #[.slice ao L.length cap] 29) := hfr2.kept _ _ hbk (by rfl)
  have HRun : Hid ((Builtin.append_ #[27, 27] 27 #[.slice ao L.length cap, .slice (some ⟨w1.heap.size, 0, none⟩) 1 1]).run Try.prog (w1.alloc (.cells #[i64 n, i64 v, .slice none 0 0, i64 0, i64 0] 41)) = .ok (.slice ao2 (L.length + 1) cap2) w2) := hrun
  have b0 : w1.cell? ⟨r, 0, none⟩ = some (.slice ao L.length cap) := blk_cell hbk 0
  have b2 : w2.cell? ⟨r, 0, none⟩ = some (.slice ao L.length cap) := blk_cell hbk2 0
  have f2 : w2.frozen? ⟨r, 0, none⟩ = false := blk_frozen hbk2 0
  have hrl : r < w1.heap.size := hR1.lt
  have hoth : ∀ (k' : Nat) (C : Array Value) (t : TypeId), t = 41 ∨ t = 60 → w2.heap[k']? = some (.cells C t) → (w2.setCell ⟨r, 0, none⟩ (.slice ao2 (L.length + 1) cap2)).heap[k']? = some (.cells C t) := fun k' C t ht hC => by
    rw [Below.heap_setCell _ _ _ _ (fun e => ?_)]
    · exact hC
    · rw [show k' = r from e, hbk2] at hC
      rcases ht with rfl | rfl <;> simp at hC
  have HF : Hid (Rb (w2.setCell ⟨r, 0, none⟩ (.slice ao2 (L.length + 1) cap2)) base r (L ++ [nwR n v]) ∧ Fr base [29, 41] w (w2.setCell ⟨r, 0, none⟩ (.slice ao2 (L.length + 1) cap2))) := by
    refine ⟨⟨HR.out.lo, ⟨_, heap_setCell_same w2 r 0 _ 29 _ hbk2, ?_⟩, ?_, ?_⟩, ?_⟩
    · rw [rcs_app, List.length_append]
      exact own_keep hown2 (fun k' C hC => hoth k' C 41 (.inl rfl) hC)
    · intro i q hq
      rw [List.getElem?_append] at hq
      split at hq
      · exact own_keep (hR1.all i q hq) (fun k' C hC => hoth k' C 60 (.inr rfl) (hfr2.kept _ _ hC (by rfl)))
      · rename_i hge
        have hq2 : q = nwR n v := by
          cases hj : i - L.length with
          | zero => rw [hj] at hq; simpa using hq.symm
          | succ m => rw [hj] at hq; simp at hq
        subst hq2
        exact World.ownsRow_nil _ _ 60 2
    · have hnew : ∀ (i : Nat) q, (L ++ [nwR n v])[i]? = some q → L[i]? = some q ∨ (q.v.ownBlock = none) := fun i q hq => by
        rw [List.getElem?_append] at hq
        split at hq
        · exact .inl hq
        · right
          cases hj : i - L.length with
          | zero => rw [hj] at hq; simp at hq; subst hq; rfl
          | succ m => rw [hj] at hq; simp at hq
      intro i i' q q' hq hq' hne k' hk'
      rcases hnew i q hq with a | a
      · rcases hnew i' q' hq' with b | b
        · exact hR1.dis i i' q q' a b hne k' hk'
        · rw [b]; simp
      · rw [a] at hk'; cases hk'
    · exact ((Fr.of_below _ hb1 hlo).trans (hfr2.mono (fun o ho => by
        cases o with
        | cells C t fr => simp [keeps] at ho ⊢; exact ho.2
        | _ => rfl))).trans (Fr.of_touch ((Touch.refl r w2).setCell rfl _) hbk2 (by rfl) HR.out.lo)
  have hcI : (L.length : Int) ≤ cap := by omega
  have hNI : (L.length : Int) ≤ 3 := by omega
  clear hb1 hbk hown hrun hown2 hfr2 hbk2 hoth hR1
  generalize L.length = N at *
  go_wp2_with (at_builtin; refine wpList_app_run rfl (.tmp 29) (.tmp 33) 27 rfl _ _ rfl rfl 27 rfl _ _ HRun.out ?_)
  go_ret
  exact ⟨rfl, HF.out⟩
end Go.Proofs.Ytopbgeoledocaaa
