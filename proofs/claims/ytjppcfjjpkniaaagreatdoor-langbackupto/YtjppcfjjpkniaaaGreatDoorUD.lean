/- Texts Li Grow Tx Lp Lq in one; no statement is proved in this text. -/
import Derived.Test.YtjppcfjjpkniaaaGreatDoorUC
import Derived.Test.YtjppcfjjpkniaaaGreatDoorUA
namespace Go.Proofs.YtjppcfjjpkniaaaGreatDoor
open Go.ChangeShapes Go.WideShapes Go.ChangeAt Go.RowKit Go.Deep
attribute [local go_sem ↓] Go.wp_at_zero Go.wp_at_succ

abbrev zT : Obj := .cells #[i64 0, i64 0, .slice none 0 0, .slice none 0 0] 49
/-- What a reader's call leaves: whether a type was taken, the type, what is left. -/
def Rok (w : World) (q L : Nat) (res : Option (Ty × Bs)) (e : Ending) (w' : World) : Prop :=
  ∃ (k n : Int) (a1 : Option Addr) (n1 c1 : Nat) (a2 : Option Addr) (n2 c2 : Nat) (l' : Bs), e = .returned (.tuple #[tyV k n (.slice a1 n1 c1) (.slice a2 n2 c2), .bool res.isSome]) ∧ w'.heap[q]? = some (.cells #[str l'] 170) ∧ l'.length ≤ L ∧ Touch q w w' ∧
    (∀ T r, res = some (T, r) → l' = r ∧ k = T.kind ∧ n = T.num ∧ Rd w' (fun b => w.heap.size ≤ b) T (.slice a1 n1 c1) (.slice a2 n2 c2))
/-- What Cut asks of the world. -/
def Mx (w : World) (q : Nat) : Prop := q ≠ 1 ∧ ∃ m, w.cell? ⟨1, 0, none⟩ = some (i64 m)
theorem Mx.touch {w w' : World} {q : Nat} (h : Mx w q) (ht : Touch q w w') : Mx w' q := by
  obtain ⟨h1, m, h2⟩ := h
  refine ⟨h1, m, ?_⟩
  rw [ht.cell (p := ⟨1, 0, none⟩) (World.block_lt_of_cell? w _ h2) (fun e => h1 e.symm)]; exact h2
theorem load25 {W : World} {b : Nat} {k n : Int} {nv kv : Value} (h : W.heap[b]? = some (.cells #[i64 k, i64 n, nv, kv] 49)) : (loadVar 49 ⟨b, 0, none⟩).run Tryz.prog W = .ok (tyV k n nv kv) W := by
  refine run_loadVar_mid _ _ 0 49 [i64 k, i64 n, nv, kv] _ (fun j v hv => ?_) Tryz.underlying49 rfl (by kernel_rfl)
  rw [Nat.zero_add, cell_of_row _ _ _ _ 49 (0, 0) h]
  simpa using hv
theorem set4 {V : World} {b : Nat} {x0 x1 x2 x3 : Value} {t : TypeId} (h : V.heap[b]? = some (.cells #[x0, x1, x2, x3] t)) (a0 a1 a2 a3 : Value) : ((((V.setCell ⟨b, 0, none⟩ a0).setCell ⟨b, 1, none⟩ a1).setCell ⟨b, 2, none⟩ a2).setCell ⟨b, 3, none⟩ a3).heap[b]? = some (.cells #[a0, a1, a2, a3] t) := by
  have h1 := heap_setCell_same V b 0 _ t a0 h
  have h2 := heap_setCell_same _ b 1 _ t a1 h1
  have h3 := heap_setCell_same _ b 2 _ t a2 h2
  have h4 := heap_setCell_same _ b 3 _ t a3 h3
  simpa using h4
theorem set4_ne {V : World} {b k : Nat} {o : Obj} (h : V.heap[k]? = some o) (hk : k ≠ b) (a0 a1 a2 a3 : Value) : ((((V.setCell ⟨b, 0, none⟩ a0).setCell ⟨b, 1, none⟩ a1).setCell ⟨b, 2, none⟩ a2).setCell ⟨b, 3, none⟩ a3).heap[k]? = some o := by
  rw [Below.heap_setCell _ _ _ _ hk, Below.heap_setCell _ _ _ _ hk, Below.heap_setCell _ _ _ _ hk, Below.heap_setCell _ _ _ _ hk]; exact h
theorem Touch.set4 {q : Nat} {a w : World} (h : Touch q a w) {b : Nat} (hb : a.heap.size ≤ b) (a0 a1 a2 a3 : Value) : Touch q a ((((w.setCell ⟨b, 0, none⟩ a0).setCell ⟨b, 1, none⟩ a1).setCell ⟨b, 2, none⟩ a2).setCell ⟨b, 3, none⟩ a3) :=
  (((h.setNew (p := ⟨b, 0, none⟩) hb a0).setNew (p := ⟨b, 1, none⟩) hb a1).setNew (p := ⟨b, 2, none⟩) hb a2).setNew (p := ⟨b, 3, none⟩) hb a3
theorem set4_ne_hid {V : World} {b k : Nat} {o : Obj} (h : Hid (V.heap[k]? = some o)) (hk : k ≠ b) (a0 a1 a2 a3 : Value) : Hid (((((V.setCell ⟨b, 0, none⟩ a0).setCell ⟨b, 1, none⟩ a1).setCell ⟨b, 2, none⟩ a2).setCell ⟨b, 3, none⟩ a3).heap[k]? = some o) := set4_ne h.out hk a0 a1 a2 a3
theorem Touch.of_drew {q : Nat} {w w' : World} (h : Touch q w.drew w') : Touch q w w' := ⟨h.os, h.tape, h.output, h.size, h.block⟩
def listP (f : Nat) (l : Bs) : Option (Ty × Bs) := match numP l with
  | some (n, 40 :: r2) => match readP f r2 with
    | some (t, 41 :: r3) => some (.mk 3 n [] [t], r3)
    | _ => none
  | _ => none
theorem numP_none {l : Bs} (h : numOk (digs3 l) = false) : numP l = none := by unfold numP; rw [h]; rfl
theorem numP_some {l : Bs} (h : numOk (digs3 l) = true) : numP l = some (valD (digs3 l), l.drop (digs3 l).length) := by unfold numP; rw [h]; rfl
/-- The one kid of a list, in new memory. -/
theorem Rd.one {w : World} {S : Nat → Prop} {T : Ty} {nv kv : Value} {b : Nat} {n : Int} (h : Rd w S T nv kv) (hb : w.heap[b]? = some (.cells #[i64 T.kind, i64 T.num, nv, kv] 49)) (hS : S b) : Rd w S (.mk 3 n [] [T]) (.slice none 0 0) (.slice (some ⟨b, 0, none⟩) 1 1) := by
  refine .mk (kids := [T]) b 0 (fun _ => nv) (fun _ => kv) ⟨none, 0, rfl, Nat.zero_le _, ⟨Nat.le_refl _, fun x hx => by simp at hx⟩, Or.inl rfl⟩ (by unfold maxLen; simp) (Or.inr ⟨rfl, hS, blk_lt hb⟩) ?_ ?_
  · intro i T' hT
    have hi : i = 0 := by have := (List.getElem?_eq_some_iff.1 hT).1; simpa using this
    subst hi
    cases hT
    intro j v hv
    rw [blk_cell hb]
    simpa using hv
  · intro i T' hT
    have hi : i = 0 := by have := (List.getElem?_eq_some_iff.1 hT).1; simpa using this
    subst hi
    cases hT
    exact h
/-- The list that was taken, behind the store of the answer. -/
theorem list_fin {w6 : World} {lo q R B : Nat} {T : Ty} {k1 m1 n : Int} {nv kv : Value} (hR : Rd w6 (fun b => lo ≤ b ∧ b ≠ q ∧ b ≠ R) T nv kv) (hB : w6.heap[B]? = some (.cells #[i64 k1, i64 m1, nv, kv] 49)) (hS : lo ≤ B ∧ B ≠ q ∧ B ≠ R) (h1 : k1 = T.kind) (h2 : m1 = T.num) (a0 a1 a2 a3 : Value) :
    Rd ((((w6.setCell ⟨R, 0, none⟩ a0).setCell ⟨R, 1, none⟩ a1).setCell ⟨R, 2, none⟩ a2).setCell ⟨R, 3, none⟩ a3) (fun b => lo ≤ b) (.mk 3 n [] [T]) (.slice none 0 0) (.slice (some ⟨B, 0, none⟩) 1 1) := by
  subst h1 h2
  refine (hR.one (n := n) hB hS).move (by simp [World.setCell]) (fun b hb _ => ⟨hb.1, ?_⟩)
  rw [Below.heap_setCell _ _ _ _ (show b ≠ R from hb.2.2), Below.heap_setCell _ _ _ _ (show b ≠ R from hb.2.2), Below.heap_setCell _ _ _ _ (show b ≠ R from hb.2.2), Below.heap_setCell _ _ _ _ (show b ≠ R from hb.2.2)]
set_option maxRecDepth 100000 in
set_option maxHeartbeats 6400000 in
theorem list_ok (f : Nat) (hrd : ∀ (w : World) (q : Nat) (l : Bs), w.heap[q]? = some (.cells #[str l] 170) → l.length ≤ 30000000 → Mx w q → Calls Tryz.prog 101 #[pq q, i64 (7 - f)] w (Rok w q l.length (readP f l)))
    (hf : f ≤ 6) (w : World) (q : Nat) (l : Bs) (hq : w.heap[q]? = some (.cells #[str l] 170)) (hl : l.length ≤ 30000000) (hM : Mx w q) : Calls Tryz.prog 116 #[pq q, i64 (6 - f)] w (Rok w q l.length (listP f l)) := by
  obtain ⟨res, hres⟩ : ∃ res, res = listP f l := ⟨_, rfl⟩
  have HRes0 := hid hres
  rw [← hres]
  have HRD := hid hrd
  have HM := hid hM
  have hqlt := blk_lt hq
  obtain ⟨D, hD⟩ : ∃ D, D = (6 : Int) - f := ⟨_, rfl⟩
  have hD1 : D + 1 = 7 - f := by omega
  have hD0 : 0 ≤ D := by omega
  have hD2 : D ≤ 6 := by omega
  have HD1 := hid hD1
  rw [← hD]
  have HR0 : Hid ((w.alloc zT).heap[w.heap.size]? = some zT) := heap_last w _
  have HQ0 : Hid ((w.alloc zT).heap[q]? = some (.cells #[str l] 170)) := blk_alloc hq _
  have HT0 : Hid (Touch q w (w.alloc zT)) := hid ((Touch.refl q w).alloc _)
  have hqR : Hid (q ≠ w.heap.size) := by show q ≠ _; omega
  have HRlt : Hid (w.heap.size < (w.alloc zT).heap.size) := by show _ < _; simp
  clear hres hrd hM hq hD hD1 hqlt
  go_enter Tryz.func116, Tryz.ntmps116
  go_upto_region 1 with fail
  obtain ⟨R, hR⟩ : ∃ R, R = w.heap.size := ⟨_, rfl⟩
  rw [← hR] at HR0 hqR HRlt ⊢
  have HRe : Hid (w.heap.size ≤ R) := by show _ ≤ _; omega
  clear hR
  generalize w.alloc zT = V at *
  have HNU : Hid (Calls Tryz.prog 115 #[pq q] V fun e w' => e = .returned (.tuple #[i64 (valD (digs3 l) : Nat), .bool (numOk (digs3 l))]) ∧ w'.heap[q]? = some (.cells #[str (l.drop (digs3 l).length)] 170) ∧ Touch q V w') := number_ok V q l hl HQ0.out
  have HNN := hid (numP_none (l := l))
  have HNS := hid (numP_some (l := l))
  have HLn : Hid ((l.drop (digs3 l).length).length ≤ l.length) := by show _ ≤ _; rw [List.length_drop]; omega
  generalize numOk (digs3 l) = OK at *
  generalize valD (digs3 l) = NV at *
  generalize l.drop (digs3 l).length = l1 at *
  go_wp2_with fail
  refine HNU.out.mono ?_
  rintro e w1 ⟨rfl, hq1, ht1⟩
  have HQ1 := hid hq1
  have HT1 : Hid (Touch q w w1) := HT0.out.trans ht1
  have HR1 : Hid (w1.heap[R]? = some zT) := by show _ = _; rw [ht1.block R HRlt.out (fun e => hqR.out e.symm)]; exact HR0.out
  have HM1 : Hid (Mx w1 q) := HM.out.touch HT1.out
  have fr0 : w1.frozen? ⟨R, 0, none⟩ = false := blk_frozen HR1.out 0
  have fc0 : w1.cell? ⟨R, 0, none⟩ = some (i64 0) := blk_cell HR1.out 0
  have fr1 : w1.frozen? ⟨R, 1, none⟩ = false := blk_frozen HR1.out 1
  have fc1 : w1.cell? ⟨R, 1, none⟩ = some (i64 0) := blk_cell HR1.out 1
  have fr2 : w1.frozen? ⟨R, 2, none⟩ = false := blk_frozen HR1.out 2
  have fc2 : w1.cell? ⟨R, 2, none⟩ = some (.slice none 0 0) := blk_cell HR1.out 2
  have fr3 : w1.frozen? ⟨R, 3, none⟩ = false := blk_frozen HR1.out 3
  have fc3 : w1.cell? ⟨R, 3, none⟩ = some (.slice none 0 0) := blk_cell HR1.out 3
  clear hq1 ht1 HNU
  cases OK with
  | false =>
    have HRes : Hid (res = none) := by show _ = _; rw [HRes0.out]; unfold listP; rw [HNN.out rfl]
    go_wp2_with fail
    refine bodyPost_ret (v := .tuple #[tyV 0 0 (.slice none 0 0) (.slice none 0 0), .bool false]) (results_cell Tryz.results116 rfl rfl (load25 (set4 HR1.out _ _ _ _))) rfl ?_
    exact ⟨0, 0, none, 0, 0, none, 0, 0, _, by rw [HRes.out]; rfl, set4_ne HQ1.out hqR.out _ _ _ _, HLn.out, HT1.out.set4 HRe.out _ _ _ _, fun T r h => by rw [HRes.out] at h; cases h⟩
  | true =>
    have hns := HNS.out rfl
    have HNS2 := hid hns
    clear hns HNS HNN
    by_cases hp : ∃ r2, l1 = 40 :: r2
    · obtain ⟨r2, rfl⟩ := hp
      go_wp2_with fail
      refine (take_hit w1 q 40 r2 HQ1.out).mono ?_
      rintro e w2 ⟨rfl, hq2, ht2⟩
      have HQ2 := hid hq2
      have HT2 : Hid (Touch q w w2) := HT1.out.trans ht2
      have HR2 : Hid (w2.heap[R]? = some zT) := by show _ = _; rw [ht2.block R (blk_lt HR1.out) (fun e => hqR.out e.symm)]; exact HR1.out
      have HM2 : Hid (Mx w2 q) := HM.out.touch HT2.out
      have HL2 : Hid (r2.length + 1 ≤ l.length) := by show _ ≤ _; have := HLn.out; simpa using this
      have HC2 : Hid (Calls Tryz.prog 101 #[pq q, i64 (D + 1)] w2 (Rok w2 q r2.length (readP f r2))) := by show Calls _ _ _ _ _; rw [HD1.out]; exact HRD.out w2 q r2 HQ2.out (by have := HL2.out; omega) HM2.out
      clear hq2 ht2 fr0 fr1 fr2 fr3 fc0 fc1 fc2 fc3
      have fr0 : w2.frozen? ⟨R, 0, none⟩ = false := blk_frozen HR2.out 0
      have fr1 : w2.frozen? ⟨R, 1, none⟩ = false := blk_frozen HR2.out 1
      have fr2 : w2.frozen? ⟨R, 2, none⟩ = false := blk_frozen HR2.out 2
      have fr3 : w2.frozen? ⟨R, 3, none⟩ = false := blk_frozen HR2.out 3
      go_wp2_with fail
      refine HC2.out.mono ?_
      rintro e w3 ⟨k1, m1, a1, n1, c1, a2, n2, c2, l3, rfl, hq3, hl3, ht3, hf3⟩
      have HQ3 := hid hq3
      have HL3 := hid hl3
      have HT3 : Hid (Touch q w w3) := HT2.out.trans ht3
      have HR3 : Hid (w3.heap[R]? = some zT) := by show _ = _; rw [ht3.block R (blk_lt HR2.out) (fun e => hqR.out e.symm)]; exact HR2.out
      have HF3 : Hid (∀ T r, readP f r2 = some (T, r) → l3 = r ∧ k1 = T.kind ∧ m1 = T.num ∧ Rd w3 (fun b => w.heap.size ≤ b) T (.slice a1 n1 c1) (.slice a2 n2 c2)) := fun T r h => by
        obtain ⟨h1, h2, h3, h4⟩ := hf3 T r h
        exact ⟨h1, h2, h3, h4.mono (fun b hb _ => Nat.le_trans HT2.out.size hb)⟩
      have HRX0 : Hid (∀ T r, readP f r2 = some (T, r) → Rd (w3.alloc (.cells #[i64 k1, i64 m1, .slice a1 n1 c1, .slice a2 n2 c2] 49)).drew (fun b => w.heap.size ≤ b ∧ b ≠ q ∧ b ≠ R) T (.slice a1 n1 c1) (.slice a2 n2 c2)) := fun T r h => by
        obtain ⟨_, _, _, h4⟩ := hf3 T r h
        have hz1 := blk_lt HQ2.out
        have hz2 := blk_lt HR2.out
        have hz3 := HT2.out.size
        refine h4.move (by show w3.heap.size ≤ (w3.alloc _).heap.size; simp) (fun b hb hlt => ⟨⟨by omega, by omega, by omega⟩, Below.heap_alloc _ _ _ hlt⟩)
      have HKx : Hid ((w3.alloc (.cells #[i64 k1, i64 m1, .slice a1 n1 c1, .slice a2 n2 c2] 49)).heap[w3.heap.size]? = some (.cells #[i64 k1, i64 m1, .slice a1 n1 c1, .slice a2 n2 c2] 49)) := heap_last w3 _
      have HQ4 : Hid ((w3.alloc (.cells #[i64 k1, i64 m1, .slice a1 n1 c1, .slice a2 n2 c2] 49)).heap[q]? = some (.cells #[str l3] 170)) := blk_alloc HQ3.out _
      have HR4 : Hid ((w3.alloc (.cells #[i64 k1, i64 m1, .slice a1 n1 c1, .slice a2 n2 c2] 49)).heap[R]? = some zT) := blk_alloc HR3.out _
      have HT4 : Hid (Touch q w (w3.alloc (.cells #[i64 k1, i64 m1, .slice a1 n1 c1, .slice a2 n2 c2] 49))) := HT3.out.alloc _
      have HB4 : Hid (Below w3.heap.size w3 (w3.alloc (.cells #[i64 k1, i64 m1, .slice a1 n1 c1, .slice a2 n2 c2] 49))) := below_one w3 _
      have HKlt : Hid (q < w3.heap.size ∧ R < w3.heap.size) := ⟨blk_lt HQ3.out, blk_lt HR3.out⟩
      clear hq3 hl3 ht3 hf3 fr0 fr1 fr2 fr3 HC2
      go_upto_region 5 with fail
      obtain ⟨Kb, hK⟩ : ∃ Kb, Kb = w3.heap.size := ⟨_, rfl⟩
      have HKe := hid hK
      rw [← hK] at HKx HKlt ⊢
      clear hK
      have HF4 : Hid (∀ T r, readP f r2 = some (T, r) → l3 = r ∧ k1 = T.kind ∧ m1 = T.num ∧ Rd (w3.alloc (.cells #[i64 k1, i64 m1, .slice a1 n1 c1, .slice a2 n2 c2] 49)) (fun b => w.heap.size ≤ b) T (.slice a1 n1 c1) (.slice a2 n2 c2)) := fun T r h => by
        obtain ⟨h1, h2, h3, h4⟩ := HF3.out T r h
        exact ⟨h1, h2, h3, h4.under HB4.out⟩
      have HRX : Hid (∀ T r, readP f r2 = some (T, r) → Rd (w3.alloc (.cells #[i64 k1, i64 m1, .slice a1 n1 c1, .slice a2 n2 c2] 49)).drew (fun b => w.heap.size ≤ b ∧ b ≠ q ∧ b ≠ R) T (.slice a1 n1 c1) (.slice a2 n2 c2)) := HRX0
      clear HRX0 HF3
      generalize w3.alloc (.cells #[i64 k1, i64 m1, .slice a1 n1 c1, .slice a2 n2 c2] 49) = X at *
      obtain ⟨hKq, hKR⟩ := HKlt.out
      cases hread : readP f r2 with
      | none =>
        have HRes : Hid (res = none) := by show _ = _; rw [HRes0.out]; unfold listP; rw [HNS2.out]; simp only [hread]
        clear HF4 hread HRX
        have HSX : Hid ((fun W => W.heap[Kb]? = some (.cells #[i64 k1, i64 m1, .slice a1 n1 c1, .slice a2 n2 c2] 49)) X.drew) := HKx.out
        refine wp_region_noPanic ?_
        refine wp_region_last (fun W => W.heap[Kb]? = some (.cells #[i64 k1, i64 m1, .slice a1 n1 c1, .slice a2 n2 c2] 49)) 10 (by kernel_rfl) ?_
        refine wpL_take 0 29 (i64 NV) [] rfl rfl (by kernel_rfl) (by decide) (by kernel_rfl) (by kernel_rfl) (by kernel_rfl) (fun _ _ _ h => h) HSX.out (by rfl) (fun W hW => by go_simp) ?_
        simp only [Act.put, List.setIfInBounds_toArray, List.set_cons_zero, List.set_cons_succ]
        refine wpL_take 1 30 (.agg #[i64 k1, i64 m1, .slice a1 n1 c1, .slice a2 n2 c2]) [] rfl rfl (by kernel_rfl) (by decide) (by kernel_rfl) (by kernel_rfl) (by kernel_rfl) (fun _ _ _ h => h) HSX.out (by rfl) (fun W hW => by have d0 : W.cell? ⟨Kb, 0, none⟩ = some (i64 k1) := blk_cell hW 0; have d1 : W.cell? ⟨Kb, 1, none⟩ = some (i64 m1) := blk_cell hW 1; have d2 : W.cell? ⟨Kb, 2, none⟩ = some (.slice a1 n1 c1) := blk_cell hW 2; have d3 : W.cell? ⟨Kb, 3, none⟩ = some (.slice a2 n2 c2) := blk_cell hW 3; go_simp) ?_
        simp only [Act.put, List.setIfInBounds_toArray, List.set_cons_zero, List.set_cons_succ]
        refine wpL_take 4 33 (.bool false) [] rfl rfl (by kernel_rfl) (by decide) (by kernel_rfl) (by kernel_rfl) (by kernel_rfl) (fun _ _ _ h => h) HSX.out (by rfl) (fun W hW => by go_simp) ?_
        simp only [Act.put, List.setIfInBounds_toArray, List.set_cons_zero, List.set_cons_succ]
        refine wpL_take 5 34 (.bool false) [] rfl rfl (by kernel_rfl) (by decide) (by kernel_rfl) (by kernel_rfl) (by kernel_rfl) (fun _ _ _ h => h) HSX.out (by rfl) (fun W hW => by go_simp) ?_
        simp only [Act.put, List.setIfInBounds_toArray, List.set_cons_zero, List.set_cons_succ]
        refine wpL_skip 6 35 [] rfl rfl (by kernel_rfl) (by decide) (by kernel_rfl) (by kernel_rfl) (by kernel_rfl) (fun _ _ _ h => h) HSX.out (by rfl) ?_
        simp only [Act.put, List.setIfInBounds_toArray, List.set_cons_zero, List.set_cons_succ]
        refine wpL_skip 7 36 [] rfl rfl (by kernel_rfl) (by decide) (by kernel_rfl) (by kernel_rfl) (by kernel_rfl) (fun _ _ _ h => h) HSX.out (by rfl) ?_
        simp only [Act.put, List.setIfInBounds_toArray, List.set_cons_zero, List.set_cons_succ]
        refine wpL_take 8 37 (.bool false) [] rfl rfl (by kernel_rfl) (by decide) (by kernel_rfl) (by kernel_rfl) (by kernel_rfl) (fun _ _ _ h => h) HSX.out (by rfl) (fun W hW => by go_simp) ?_
        simp only [Act.put, List.setIfInBounds_toArray, List.set_cons_zero, List.set_cons_succ]
        have HS5 : Hid ((fun W => W.heap[Kb]? = some (.cells #[i64 k1, i64 m1, .slice a1 n1 c1, .slice a2 n2 c2] 49)) (X.alloc (.cells #[i64 k1, i64 m1, .slice a1 n1 c1, .slice a2 n2 c2] 49)).drew) := blk_alloc HKx.out _
        have HR5 : Hid ((X.alloc (.cells #[i64 k1, i64 m1, .slice a1 n1 c1, .slice a2 n2 c2] 49)).drew.heap[R]? = some zT) := blk_alloc HR4.out _
        have HQ5 : Hid ((X.alloc (.cells #[i64 k1, i64 m1, .slice a1 n1 c1, .slice a2 n2 c2] 49)).drew.heap[q]? = some (.cells #[str l3] 170)) := blk_alloc HQ4.out _
        have HT5 : Hid (Touch q w (X.alloc (.cells #[i64 k1, i64 m1, .slice a1 n1 c1, .slice a2 n2 c2] 49)).drew) := (HT4.out.alloc _).drew
        refine wpL_one 2 rfl (by kernel_rfl) (by rfl) (fun K hK => ?_)
        go_simp
        refine hK.out _ _ (fun _ => HS5.out) ?_
        clear hK K
        generalize (X.alloc (.cells #[i64 k1, i64 m1, .slice a1 n1 c1, .slice a2 n2 c2] 49)).drew = Y at *
        refine wpL_take 3 32 (.agg #[i64 3, i64 NV, .slice none 0 0, .slice (some ⟨X.heap.size, 0, none⟩) 1 1]) [] rfl rfl (by kernel_rfl) (by decide) (by kernel_rfl) (by kernel_rfl) (by kernel_rfl) (fun _ _ _ h => h) HS5.out (by rfl) (fun W hW => by go_simp) ?_
        simp only [Act.put, List.setIfInBounds_toArray, List.set_cons_zero, List.set_cons_succ]
        have fr0 : Y.frozen? ⟨R, 0, none⟩ = false := blk_frozen HR5.out 0
        have fc0 : Y.cell? ⟨R, 0, none⟩ = some (i64 0) := blk_cell HR5.out 0
        have fr1 : Y.frozen? ⟨R, 1, none⟩ = false := blk_frozen HR5.out 1
        have fc1 : Y.cell? ⟨R, 1, none⟩ = some (i64 0) := blk_cell HR5.out 1
        have fr2 : Y.frozen? ⟨R, 2, none⟩ = false := blk_frozen HR5.out 2
        have fc2 : Y.cell? ⟨R, 2, none⟩ = some (.slice none 0 0) := blk_cell HR5.out 2
        have fr3 : Y.frozen? ⟨R, 3, none⟩ = false := blk_frozen HR5.out 3
        have fc3 : Y.cell? ⟨R, 3, none⟩ = some (.slice none 0 0) := blk_cell HR5.out 3
        refine wpL_one 9 rfl (by kernel_rfl) (by rfl) (fun K hK => ?_)
        go_simp
        refine hK.out _ _ (fun _ => set4_ne HS5.out (show Kb ≠ R by omega) _ _ _ _) ?_
        clear hK K
        refine wpL_one 10 rfl (by kernel_rfl) (by rfl) (fun K hK => ?_)
        go_simp
        refine hK.out _ _ (fun h => absurd rfl h) ?_
        clear hK K
        refine wpL_done (by kernel_rfl) ?_
        refine NoPanic.normal ?_
        go_wp2_with fail
        refine bodyPost_ret (v := .tuple #[tyV 3 NV (.slice none 0 0) (.slice (some ⟨X.heap.size, 0, none⟩) 1 1), .bool false]) (results_cell Tryz.results116 rfl rfl (load25 (set4 HR5.out _ _ _ _))) rfl ?_
        exact ⟨3, NV, none, 0, 0, _, 1, 1, l3, by rw [HRes.out]; rfl, set4_ne HQ5.out hqR.out _ _ _ _, (by have := HL3.out; have := HL2.out; omega), HT5.out.set4 HRe.out _ _ _ _, fun T r h => by rw [HRes.out] at h; cases h⟩
      | some x =>
        obtain ⟨T, rr⟩ := x
        obtain ⟨g1, g2, g3, g4⟩ := HF4.out T rr hread
        subst g1
        have hXs : w.heap.size ≤ X.heap.size := HT4.out.size
        have hRX : R < X.heap.size := blk_lt HR4.out
        have hqX : q < X.heap.size := blk_lt HQ4.out
        have HRTX : Hid (Rd X.drew (fun b => w.heap.size ≤ b ∧ b ≠ q ∧ b ≠ R) T (.slice a1 n1 c1) (.slice a2 n2 c2)) := HRX.out T _ hread
        have HKT : Hid (k1 = T.kind ∧ m1 = T.num) := ⟨g2, g3⟩
        clear g2 g3 g4 HF4 HRX
        by_cases h41 : ∃ r4, l3 = 41 :: r4
        · skip
          obtain ⟨r4, rfl⟩ := h41
          have HRes : Hid (res = some (.mk 3 NV [] [T], r4)) := by show _ = _; rw [HRes0.out]; unfold listP; rw [HNS2.out]; simp only [hread]
          clear hread
          have HTK : Hid (∀ W, W.heap[q]? = some (.cells #[str (41 :: r4)] 170) → Calls Tryz.prog 114 #[pq q, str [41]] W fun e w' => e = .returned (.bool true) ∧ w'.heap[q]? = some (.cells #[str r4] 170) ∧ Touch q W w') := fun W hW => take_hit W q 41 r4 hW
          have HSX : Hid ((fun W => W.heap[Kb]? = some (.cells #[i64 k1, i64 m1, .slice a1 n1 c1, .slice a2 n2 c2] 49)) X.drew) := HKx.out
          refine wp_region_noPanic ?_
          refine wp_region_last (fun W => W.heap[Kb]? = some (.cells #[i64 k1, i64 m1, .slice a1 n1 c1, .slice a2 n2 c2] 49)) 10 (by kernel_rfl) ?_
          refine wpL_take 0 29 (i64 NV) [] rfl rfl (by kernel_rfl) (by decide) (by kernel_rfl) (by kernel_rfl) (by kernel_rfl) (fun _ _ _ h => h) HSX.out (by rfl) (fun W hW => by go_simp) ?_
          simp only [Act.put, List.setIfInBounds_toArray, List.set_cons_zero, List.set_cons_succ]
          refine wpL_take 1 30 (.agg #[i64 k1, i64 m1, .slice a1 n1 c1, .slice a2 n2 c2]) [] rfl rfl (by kernel_rfl) (by decide) (by kernel_rfl) (by kernel_rfl) (by kernel_rfl) (fun _ _ _ h => h) HSX.out (by rfl) (fun W hW => by have d0 : W.cell? ⟨Kb, 0, none⟩ = some (i64 k1) := blk_cell hW 0; have d1 : W.cell? ⟨Kb, 1, none⟩ = some (i64 m1) := blk_cell hW 1; have d2 : W.cell? ⟨Kb, 2, none⟩ = some (.slice a1 n1 c1) := blk_cell hW 2; have d3 : W.cell? ⟨Kb, 3, none⟩ = some (.slice a2 n2 c2) := blk_cell hW 3; go_simp) ?_
          simp only [Act.put, List.setIfInBounds_toArray, List.set_cons_zero, List.set_cons_succ]
          refine wpL_take 4 33 (.bool true) [] rfl rfl (by kernel_rfl) (by decide) (by kernel_rfl) (by kernel_rfl) (by kernel_rfl) (fun _ _ _ h => h) HSX.out (by rfl) (fun W hW => by go_simp) ?_
          simp only [Act.put, List.setIfInBounds_toArray, List.set_cons_zero, List.set_cons_succ]
          refine wpL_take 5 34 (.bool true) [] rfl rfl (by kernel_rfl) (by decide) (by kernel_rfl) (by kernel_rfl) (by kernel_rfl) (fun _ _ _ h => h) HSX.out (by rfl) (fun W hW => by go_simp) ?_
          simp only [Act.put, List.setIfInBounds_toArray, List.set_cons_zero, List.set_cons_succ]
          refine wpL_take 6 35 (pq q) [] rfl rfl (by kernel_rfl) (by decide) (by kernel_rfl) (by kernel_rfl) (by kernel_rfl) (fun _ _ _ h => h) HSX.out (by rfl) (fun W hW => by go_simp) ?_
          simp only [Act.put, List.setIfInBounds_toArray, List.set_cons_zero, List.set_cons_succ]
          refine wpL_two 2 7 rfl rfl (by kernel_rfl) (by rfl) (by rfl) (fun K0 hK0 => ?_) (fun K0 hK0 => ?_)
          · go_simp
            have HS5 : Hid ((fun W => W.heap[Kb]? = some (.cells #[i64 k1, i64 m1, .slice a1 n1 c1, .slice a2 n2 c2] 49)) (X.alloc (.cells #[i64 k1, i64 m1, .slice a1 n1 c1, .slice a2 n2 c2] 49)).drew) := blk_alloc HKx.out _
            have HR5 : Hid ((X.alloc (.cells #[i64 k1, i64 m1, .slice a1 n1 c1, .slice a2 n2 c2] 49)).drew.heap[R]? = some zT) := blk_alloc HR4.out _
            have HQ5 : Hid ((X.alloc (.cells #[i64 k1, i64 m1, .slice a1 n1 c1, .slice a2 n2 c2] 49)).drew.heap[q]? = some (.cells #[str (41 :: r4)] 170)) := blk_alloc HQ4.out _
            have HT5 : Hid (Touch q w (X.alloc (.cells #[i64 k1, i64 m1, .slice a1 n1 c1, .slice a2 n2 c2] 49)).drew) := (HT4.out.alloc _).drew
            have HN5 : Hid ((X.alloc (.cells #[i64 k1, i64 m1, .slice a1 n1 c1, .slice a2 n2 c2] 49)).drew.heap[X.heap.size]? = some (.cells #[i64 k1, i64 m1, .slice a1 n1 c1, .slice a2 n2 c2] 49)) := heap_last X _
            have HRT5 : Hid (Rd (X.alloc (.cells #[i64 k1, i64 m1, .slice a1 n1 c1, .slice a2 n2 c2] 49)).drew (fun b => w.heap.size ≤ b ∧ b ≠ q ∧ b ≠ R) T (.slice a1 n1 c1) (.slice a2 n2 c2)) := HRTX.out.move (by show X.heap.size ≤ (X.alloc _).heap.size; simp) (fun b hb hlt => ⟨hb, Below.heap_alloc X _ _ hlt⟩)
            refine hK0.out _ _ (fun _ => HS5.out) ?_
            clear hK0 K0
            obtain ⟨B, hB⟩ : ∃ B, B = X.heap.size := ⟨_, rfl⟩
            have hBlo : X.heap.size ≤ B := by rw [hB]; exact Nat.le_refl _
            rw [← hB] at HN5 ⊢
            clear hB
            generalize (X.alloc (.cells #[i64 k1, i64 m1, .slice a1 n1 c1, .slice a2 n2 c2] 49)).drew = Y at *
            refine wpL_take 3 32 (.agg #[i64 3, i64 NV, .slice none 0 0, .slice (some ⟨B, 0, none⟩) 1 1]) [] rfl rfl (by kernel_rfl) (by decide) (by kernel_rfl) (by kernel_rfl) (by kernel_rfl) (fun _ _ _ h => h) HS5.out (by rfl) (fun W hW => by go_simp) ?_
            simp only [Act.put, List.setIfInBounds_toArray, List.set_cons_zero, List.set_cons_succ]
            refine wpL_one 7 rfl (by kernel_rfl) (by rfl) (fun K hK => ?_)
            go_simp
            refine (HTK.out Y HQ5.out).mono ?_
            rintro e w6 ⟨rfl, hq6, ht6⟩
            have HQ6 := hid hq6
            have HT6 : Hid (Touch q w w6) := HT5.out.trans ht6
            have HR6 : Hid (w6.heap[R]? = some zT) := by show _ = _; rw [ht6.block R (blk_lt HR5.out) (fun e => hqR.out e.symm)]; exact HR5.out
            have HS6 : Hid ((fun W => W.heap[Kb]? = some (.cells #[i64 k1, i64 m1, .slice a1 n1 c1, .slice a2 n2 c2] 49)) w6) := by show _ = _; rw [ht6.block Kb (blk_lt HS5.out) (by omega)]; exact HS5.out
            have HN6 : Hid (w6.heap[B]? = some (.cells #[i64 k1, i64 m1, .slice a1 n1 c1, .slice a2 n2 c2] 49)) := by show _ = _; rw [ht6.block B (blk_lt HN5.out) (by omega)]; exact HN5.out
            have HRT6 : Hid (Rd w6 (fun b => w.heap.size ≤ b ∧ b ≠ q ∧ b ≠ R) T (.slice a1 n1 c1) (.slice a2 n2 c2)) := HRT5.out.move ht6.size (fun b hb hlt => ⟨hb, ht6.block b hlt hb.2.1⟩)
            clear hq6 ht6
            go_simp
            refine hK.out _ _ (fun _ => HS6.out) ?_
            clear hK K
            refine wpL_take 8 37 (.bool true) [] rfl rfl (by kernel_rfl) (by decide) (by kernel_rfl) (by kernel_rfl) (by kernel_rfl) (fun _ _ _ h => h) HS6.out (by rfl) (fun W hW => by go_simp) ?_
            simp only [Act.put, List.setIfInBounds_toArray, List.set_cons_zero, List.set_cons_succ]
            have fr0 : w6.frozen? ⟨R, 0, none⟩ = false := blk_frozen HR6.out 0
            have fc0 : w6.cell? ⟨R, 0, none⟩ = some (i64 0) := blk_cell HR6.out 0
            have fr1 : w6.frozen? ⟨R, 1, none⟩ = false := blk_frozen HR6.out 1
            have fc1 : w6.cell? ⟨R, 1, none⟩ = some (i64 0) := blk_cell HR6.out 1
            have fr2 : w6.frozen? ⟨R, 2, none⟩ = false := blk_frozen HR6.out 2
            have fc2 : w6.cell? ⟨R, 2, none⟩ = some (.slice none 0 0) := blk_cell HR6.out 2
            have fr3 : w6.frozen? ⟨R, 3, none⟩ = false := blk_frozen HR6.out 3
            have fc3 : w6.cell? ⟨R, 3, none⟩ = some (.slice none 0 0) := blk_cell HR6.out 3
            refine wpL_one 9 rfl (by kernel_rfl) (by rfl) (fun K hK => ?_)
            go_simp
            refine hK.out _ _ (fun _ => set4_ne HS6.out (show Kb ≠ R by omega) _ _ _ _) ?_
            clear hK K
            refine wpL_one 10 rfl (by kernel_rfl) (by rfl) (fun K hK => ?_)
            go_simp
            refine hK.out _ _ (fun h => absurd rfl h) ?_
            clear hK K
            refine wpL_done (by kernel_rfl) ?_
            refine NoPanic.normal ?_
            go_wp2_with fail
            refine bodyPost_ret (v := .tuple #[tyV 3 NV (.slice none 0 0) (.slice (some ⟨B, 0, none⟩) 1 1), .bool true]) (results_cell Tryz.results116 rfl rfl (load25 (set4 HR6.out _ _ _ _))) rfl ?_
            exact ⟨3, NV, none, 0, 0, _, 1, 1, r4, by rw [HRes.out]; rfl, set4_ne HQ6.out hqR.out _ _ _ _, (by have h1 := HL3.out; have h2 := HL2.out; rw [List.length_cons] at h1; omega), HT6.out.set4 HRe.out _ _ _ _, fun T' r' h => by rw [HRes.out] at h; cases h; exact ⟨rfl, rfl, rfl, list_fin HRT6.out HN6.out ⟨by omega, by omega, by omega⟩ HKT.out.1 HKT.out.2 _ _ _ _⟩⟩
          · go_simp
            refine (HTK.out X.drew HQ4.out).mono ?_
            rintro e w5 ⟨rfl, hq5, ht5⟩
            have HT5 : Hid (Touch q w w5) := HT4.out.drew.trans ht5
            have HR5 : Hid (w5.heap[R]? = some zT) := by show _ = _; rw [ht5.block R (blk_lt (w := X.drew) HR4.out) (fun e => hqR.out e.symm)]; exact HR4.out
            have HS5 : Hid ((fun W => W.heap[Kb]? = some (.cells #[i64 k1, i64 m1, .slice a1 n1 c1, .slice a2 n2 c2] 49)) w5) := by show _ = _; rw [ht5.block Kb (blk_lt (w := X.drew) HSX.out) (by omega)]; exact HSX.out
            have HRT5 : Hid (Rd w5 (fun b => w.heap.size ≤ b ∧ b ≠ q ∧ b ≠ R) T (.slice a1 n1 c1) (.slice a2 n2 c2)) := HRTX.out.move ht5.size (fun b hb hlt => ⟨hb, ht5.block b hlt hb.2.1⟩)
            have HQ5 := hid hq5
            have hX5 : X.heap.size ≤ w5.heap.size := ht5.size
            clear hq5 ht5
            go_simp
            refine hK0.out _ _ (fun _ => HS5.out) ?_
            clear hK0 K0
            refine wpL_take 8 37 (.bool true) [] rfl rfl (by kernel_rfl) (by decide) (by kernel_rfl) (by kernel_rfl) (by kernel_rfl) (fun _ _ _ h => h) HS5.out (by rfl) (fun W hW => by go_simp) ?_
            simp only [Act.put, List.setIfInBounds_toArray, List.set_cons_zero, List.set_cons_succ]
            have HS6 : Hid ((fun W => W.heap[Kb]? = some (.cells #[i64 k1, i64 m1, .slice a1 n1 c1, .slice a2 n2 c2] 49)) (w5.alloc (.cells #[i64 k1, i64 m1, .slice a1 n1 c1, .slice a2 n2 c2] 49))) := blk_alloc HS5.out _
            have HR6 : Hid ((w5.alloc (.cells #[i64 k1, i64 m1, .slice a1 n1 c1, .slice a2 n2 c2] 49)).heap[R]? = some zT) := blk_alloc HR5.out _
            have HQ6 : Hid ((w5.alloc (.cells #[i64 k1, i64 m1, .slice a1 n1 c1, .slice a2 n2 c2] 49)).heap[q]? = some (.cells #[str r4] 170)) := blk_alloc HQ5.out _
            have HT6 : Hid (Touch q w (w5.alloc (.cells #[i64 k1, i64 m1, .slice a1 n1 c1, .slice a2 n2 c2] 49))) := HT5.out.alloc _
            have HN6 : Hid ((w5.alloc (.cells #[i64 k1, i64 m1, .slice a1 n1 c1, .slice a2 n2 c2] 49)).heap[w5.heap.size]? = some (.cells #[i64 k1, i64 m1, .slice a1 n1 c1, .slice a2 n2 c2] 49)) := heap_last w5 _
            have HRT6 : Hid (Rd (w5.alloc (.cells #[i64 k1, i64 m1, .slice a1 n1 c1, .slice a2 n2 c2] 49)) (fun b => w.heap.size ≤ b ∧ b ≠ q ∧ b ≠ R) T (.slice a1 n1 c1) (.slice a2 n2 c2)) := HRT5.out.move (by simp) (fun b hb hlt => ⟨hb, Below.heap_alloc _ _ _ hlt⟩)
            refine wpL_one 2 rfl (by kernel_rfl) (by rfl) (fun K hK => ?_)
            go_simp
            refine hK.out _ _ (fun _ => HS6.out) ?_
            clear hK K
            obtain ⟨B, hB⟩ : ∃ B, B = w5.heap.size := ⟨_, rfl⟩
            have hBlo : X.heap.size ≤ B := by rw [hB]; exact hX5
            rw [← hB] at HN6 ⊢
            clear hB
            generalize (w5.alloc (.cells #[i64 k1, i64 m1, .slice a1 n1 c1, .slice a2 n2 c2] 49)) = w6 at *
            refine wpL_take 3 32 (.agg #[i64 3, i64 NV, .slice none 0 0, .slice (some ⟨B, 0, none⟩) 1 1]) [] rfl rfl (by kernel_rfl) (by decide) (by kernel_rfl) (by kernel_rfl) (by kernel_rfl) (fun _ _ _ h => h) HS6.out (by rfl) (fun W hW => by go_simp) ?_
            simp only [Act.put, List.setIfInBounds_toArray, List.set_cons_zero, List.set_cons_succ]
            have fr0 : w6.frozen? ⟨R, 0, none⟩ = false := blk_frozen HR6.out 0
            have fc0 : w6.cell? ⟨R, 0, none⟩ = some (i64 0) := blk_cell HR6.out 0
            have fr1 : w6.frozen? ⟨R, 1, none⟩ = false := blk_frozen HR6.out 1
            have fc1 : w6.cell? ⟨R, 1, none⟩ = some (i64 0) := blk_cell HR6.out 1
            have fr2 : w6.frozen? ⟨R, 2, none⟩ = false := blk_frozen HR6.out 2
            have fc2 : w6.cell? ⟨R, 2, none⟩ = some (.slice none 0 0) := blk_cell HR6.out 2
            have fr3 : w6.frozen? ⟨R, 3, none⟩ = false := blk_frozen HR6.out 3
            have fc3 : w6.cell? ⟨R, 3, none⟩ = some (.slice none 0 0) := blk_cell HR6.out 3
            refine wpL_one 9 rfl (by kernel_rfl) (by rfl) (fun K hK => ?_)
            go_simp
            refine hK.out _ _ (fun _ => set4_ne HS6.out (show Kb ≠ R by omega) _ _ _ _) ?_
            clear hK K
            refine wpL_one 10 rfl (by kernel_rfl) (by rfl) (fun K hK => ?_)
            go_simp
            refine hK.out _ _ (fun h => absurd rfl h) ?_
            clear hK K
            refine wpL_done (by kernel_rfl) ?_
            refine NoPanic.normal ?_
            go_wp2_with fail
            refine bodyPost_ret (v := .tuple #[tyV 3 NV (.slice none 0 0) (.slice (some ⟨B, 0, none⟩) 1 1), .bool true]) (results_cell Tryz.results116 rfl rfl (load25 (set4 HR6.out _ _ _ _))) rfl ?_
            exact ⟨3, NV, none, 0, 0, _, 1, 1, r4, by rw [HRes.out]; rfl, set4_ne HQ6.out hqR.out _ _ _ _, (by have h1 := HL3.out; have h2 := HL2.out; rw [List.length_cons] at h1; omega), HT6.out.set4 HRe.out _ _ _ _, fun T' r' h => by rw [HRes.out] at h; cases h; exact ⟨rfl, rfl, rfl, list_fin HRT6.out HN6.out ⟨by omega, by omega, by omega⟩ HKT.out.1 HKT.out.2 _ _ _ _⟩⟩
        · skip
          have HRes : Hid (res = none) := by
            show _ = _
            rw [HRes0.out]
            unfold listP
            rw [HNS2.out]
            simp only [hread]
            split
            · rename_i heq
              cases heq
              exact absurd ⟨_, rfl⟩ h41
            · rfl
          clear hread
          have HTK : Hid (∀ W, W.heap[q]? = some (.cells #[str l3] 170) → Calls Tryz.prog 114 #[pq q, str [41]] W fun e w' => e = .returned (.bool false) ∧ w'.heap[q]? = some (.cells #[str l3] 170) ∧ Touch q W w') := fun W hW => take_miss W q 41 l3 (fun r e => h41 ⟨r, e⟩) hW
          have HSX : Hid ((fun W => W.heap[Kb]? = some (.cells #[i64 k1, i64 m1, .slice a1 n1 c1, .slice a2 n2 c2] 49)) X.drew) := HKx.out
          refine wp_region_noPanic ?_
          refine wp_region_last (fun W => W.heap[Kb]? = some (.cells #[i64 k1, i64 m1, .slice a1 n1 c1, .slice a2 n2 c2] 49)) 10 (by kernel_rfl) ?_
          refine wpL_take 0 29 (i64 NV) [] rfl rfl (by kernel_rfl) (by decide) (by kernel_rfl) (by kernel_rfl) (by kernel_rfl) (fun _ _ _ h => h) HSX.out (by rfl) (fun W hW => by go_simp) ?_
          simp only [Act.put, List.setIfInBounds_toArray, List.set_cons_zero, List.set_cons_succ]
          refine wpL_take 1 30 (.agg #[i64 k1, i64 m1, .slice a1 n1 c1, .slice a2 n2 c2]) [] rfl rfl (by kernel_rfl) (by decide) (by kernel_rfl) (by kernel_rfl) (by kernel_rfl) (fun _ _ _ h => h) HSX.out (by rfl) (fun W hW => by have d0 : W.cell? ⟨Kb, 0, none⟩ = some (i64 k1) := blk_cell hW 0; have d1 : W.cell? ⟨Kb, 1, none⟩ = some (i64 m1) := blk_cell hW 1; have d2 : W.cell? ⟨Kb, 2, none⟩ = some (.slice a1 n1 c1) := blk_cell hW 2; have d3 : W.cell? ⟨Kb, 3, none⟩ = some (.slice a2 n2 c2) := blk_cell hW 3; go_simp) ?_
          simp only [Act.put, List.setIfInBounds_toArray, List.set_cons_zero, List.set_cons_succ]
          refine wpL_take 4 33 (.bool true) [] rfl rfl (by kernel_rfl) (by decide) (by kernel_rfl) (by kernel_rfl) (by kernel_rfl) (fun _ _ _ h => h) HSX.out (by rfl) (fun W hW => by go_simp) ?_
          simp only [Act.put, List.setIfInBounds_toArray, List.set_cons_zero, List.set_cons_succ]
          refine wpL_take 5 34 (.bool true) [] rfl rfl (by kernel_rfl) (by decide) (by kernel_rfl) (by kernel_rfl) (by kernel_rfl) (fun _ _ _ h => h) HSX.out (by rfl) (fun W hW => by go_simp) ?_
          simp only [Act.put, List.setIfInBounds_toArray, List.set_cons_zero, List.set_cons_succ]
          refine wpL_take 6 35 (pq q) [] rfl rfl (by kernel_rfl) (by decide) (by kernel_rfl) (by kernel_rfl) (by kernel_rfl) (fun _ _ _ h => h) HSX.out (by rfl) (fun W hW => by go_simp) ?_
          simp only [Act.put, List.setIfInBounds_toArray, List.set_cons_zero, List.set_cons_succ]
          refine wpL_two 2 7 rfl rfl (by kernel_rfl) (by rfl) (by rfl) (fun K0 hK0 => ?_) (fun K0 hK0 => ?_)
          · go_simp
            have HS5 : Hid ((fun W => W.heap[Kb]? = some (.cells #[i64 k1, i64 m1, .slice a1 n1 c1, .slice a2 n2 c2] 49)) (X.alloc (.cells #[i64 k1, i64 m1, .slice a1 n1 c1, .slice a2 n2 c2] 49)).drew) := blk_alloc HKx.out _
            have HR5 : Hid ((X.alloc (.cells #[i64 k1, i64 m1, .slice a1 n1 c1, .slice a2 n2 c2] 49)).drew.heap[R]? = some zT) := blk_alloc HR4.out _
            have HQ5 : Hid ((X.alloc (.cells #[i64 k1, i64 m1, .slice a1 n1 c1, .slice a2 n2 c2] 49)).drew.heap[q]? = some (.cells #[str l3] 170)) := blk_alloc HQ4.out _
            have HT5 : Hid (Touch q w (X.alloc (.cells #[i64 k1, i64 m1, .slice a1 n1 c1, .slice a2 n2 c2] 49)).drew) := (HT4.out.alloc _).drew
            have HN5 : Hid ((X.alloc (.cells #[i64 k1, i64 m1, .slice a1 n1 c1, .slice a2 n2 c2] 49)).drew.heap[X.heap.size]? = some (.cells #[i64 k1, i64 m1, .slice a1 n1 c1, .slice a2 n2 c2] 49)) := heap_last X _
            have HRT5 : Hid (Rd (X.alloc (.cells #[i64 k1, i64 m1, .slice a1 n1 c1, .slice a2 n2 c2] 49)).drew (fun b => w.heap.size ≤ b ∧ b ≠ q ∧ b ≠ R) T (.slice a1 n1 c1) (.slice a2 n2 c2)) := HRTX.out.move (by show X.heap.size ≤ (X.alloc _).heap.size; simp) (fun b hb hlt => ⟨hb, Below.heap_alloc X _ _ hlt⟩)
            refine hK0.out _ _ (fun _ => HS5.out) ?_
            clear hK0 K0
            obtain ⟨B, hB⟩ : ∃ B, B = X.heap.size := ⟨_, rfl⟩
            have hBlo : X.heap.size ≤ B := by rw [hB]; exact Nat.le_refl _
            rw [← hB] at HN5 ⊢
            clear hB
            generalize (X.alloc (.cells #[i64 k1, i64 m1, .slice a1 n1 c1, .slice a2 n2 c2] 49)).drew = Y at *
            refine wpL_take 3 32 (.agg #[i64 3, i64 NV, .slice none 0 0, .slice (some ⟨B, 0, none⟩) 1 1]) [] rfl rfl (by kernel_rfl) (by decide) (by kernel_rfl) (by kernel_rfl) (by kernel_rfl) (fun _ _ _ h => h) HS5.out (by rfl) (fun W hW => by go_simp) ?_
            simp only [Act.put, List.setIfInBounds_toArray, List.set_cons_zero, List.set_cons_succ]
            refine wpL_one 7 rfl (by kernel_rfl) (by rfl) (fun K hK => ?_)
            go_simp
            refine (HTK.out Y HQ5.out).mono ?_
            rintro e w6 ⟨rfl, hq6, ht6⟩
            have HQ6 := hid hq6
            have HT6 : Hid (Touch q w w6) := HT5.out.trans ht6
            have HR6 : Hid (w6.heap[R]? = some zT) := by show _ = _; rw [ht6.block R (blk_lt HR5.out) (fun e => hqR.out e.symm)]; exact HR5.out
            have HS6 : Hid ((fun W => W.heap[Kb]? = some (.cells #[i64 k1, i64 m1, .slice a1 n1 c1, .slice a2 n2 c2] 49)) w6) := by show _ = _; rw [ht6.block Kb (blk_lt HS5.out) (by omega)]; exact HS5.out
            have HN6 : Hid (w6.heap[B]? = some (.cells #[i64 k1, i64 m1, .slice a1 n1 c1, .slice a2 n2 c2] 49)) := by show _ = _; rw [ht6.block B (blk_lt HN5.out) (by omega)]; exact HN5.out
            have HRT6 : Hid (Rd w6 (fun b => w.heap.size ≤ b ∧ b ≠ q ∧ b ≠ R) T (.slice a1 n1 c1) (.slice a2 n2 c2)) := HRT5.out.move ht6.size (fun b hb hlt => ⟨hb, ht6.block b hlt hb.2.1⟩)
            clear hq6 ht6
            go_simp
            refine hK.out _ _ (fun _ => HS6.out) ?_
            clear hK K
            refine wpL_take 8 37 (.bool false) [] rfl rfl (by kernel_rfl) (by decide) (by kernel_rfl) (by kernel_rfl) (by kernel_rfl) (fun _ _ _ h => h) HS6.out (by rfl) (fun W hW => by go_simp) ?_
            simp only [Act.put, List.setIfInBounds_toArray, List.set_cons_zero, List.set_cons_succ]
            have fr0 : w6.frozen? ⟨R, 0, none⟩ = false := blk_frozen HR6.out 0
            have fc0 : w6.cell? ⟨R, 0, none⟩ = some (i64 0) := blk_cell HR6.out 0
            have fr1 : w6.frozen? ⟨R, 1, none⟩ = false := blk_frozen HR6.out 1
            have fc1 : w6.cell? ⟨R, 1, none⟩ = some (i64 0) := blk_cell HR6.out 1
            have fr2 : w6.frozen? ⟨R, 2, none⟩ = false := blk_frozen HR6.out 2
            have fc2 : w6.cell? ⟨R, 2, none⟩ = some (.slice none 0 0) := blk_cell HR6.out 2
            have fr3 : w6.frozen? ⟨R, 3, none⟩ = false := blk_frozen HR6.out 3
            have fc3 : w6.cell? ⟨R, 3, none⟩ = some (.slice none 0 0) := blk_cell HR6.out 3
            refine wpL_one 9 rfl (by kernel_rfl) (by rfl) (fun K hK => ?_)
            go_simp
            refine hK.out _ _ (fun _ => set4_ne HS6.out (show Kb ≠ R by omega) _ _ _ _) ?_
            clear hK K
            refine wpL_one 10 rfl (by kernel_rfl) (by rfl) (fun K hK => ?_)
            go_simp
            refine hK.out _ _ (fun h => absurd rfl h) ?_
            clear hK K
            refine wpL_done (by kernel_rfl) ?_
            refine NoPanic.normal ?_
            go_wp2_with fail
            refine bodyPost_ret (v := .tuple #[tyV 3 NV (.slice none 0 0) (.slice (some ⟨B, 0, none⟩) 1 1), .bool false]) (results_cell Tryz.results116 rfl rfl (load25 (set4 HR6.out _ _ _ _))) rfl ?_
            exact ⟨3, NV, none, 0, 0, _, 1, 1, l3, by rw [HRes.out]; rfl, set4_ne HQ6.out hqR.out _ _ _ _, (by have h1 := HL3.out; have h2 := HL2.out; omega), HT6.out.set4 HRe.out _ _ _ _, fun T' r' h => by rw [HRes.out] at h; cases h⟩
          · go_simp
            refine (HTK.out X.drew HQ4.out).mono ?_
            rintro e w5 ⟨rfl, hq5, ht5⟩
            have HT5 : Hid (Touch q w w5) := HT4.out.drew.trans ht5
            have HR5 : Hid (w5.heap[R]? = some zT) := by show _ = _; rw [ht5.block R (blk_lt (w := X.drew) HR4.out) (fun e => hqR.out e.symm)]; exact HR4.out
            have HS5 : Hid ((fun W => W.heap[Kb]? = some (.cells #[i64 k1, i64 m1, .slice a1 n1 c1, .slice a2 n2 c2] 49)) w5) := by show _ = _; rw [ht5.block Kb (blk_lt (w := X.drew) HSX.out) (by omega)]; exact HSX.out
            have HRT5 : Hid (Rd w5 (fun b => w.heap.size ≤ b ∧ b ≠ q ∧ b ≠ R) T (.slice a1 n1 c1) (.slice a2 n2 c2)) := HRTX.out.move ht5.size (fun b hb hlt => ⟨hb, ht5.block b hlt hb.2.1⟩)
            have HQ5 := hid hq5
            have hX5 : X.heap.size ≤ w5.heap.size := ht5.size
            clear hq5 ht5
            go_simp
            refine hK0.out _ _ (fun _ => HS5.out) ?_
            clear hK0 K0
            refine wpL_take 8 37 (.bool false) [] rfl rfl (by kernel_rfl) (by decide) (by kernel_rfl) (by kernel_rfl) (by kernel_rfl) (fun _ _ _ h => h) HS5.out (by rfl) (fun W hW => by go_simp) ?_
            simp only [Act.put, List.setIfInBounds_toArray, List.set_cons_zero, List.set_cons_succ]
            have HS6 : Hid ((fun W => W.heap[Kb]? = some (.cells #[i64 k1, i64 m1, .slice a1 n1 c1, .slice a2 n2 c2] 49)) (w5.alloc (.cells #[i64 k1, i64 m1, .slice a1 n1 c1, .slice a2 n2 c2] 49))) := blk_alloc HS5.out _
            have HR6 : Hid ((w5.alloc (.cells #[i64 k1, i64 m1, .slice a1 n1 c1, .slice a2 n2 c2] 49)).heap[R]? = some zT) := blk_alloc HR5.out _
            have HQ6 : Hid ((w5.alloc (.cells #[i64 k1, i64 m1, .slice a1 n1 c1, .slice a2 n2 c2] 49)).heap[q]? = some (.cells #[str l3] 170)) := blk_alloc HQ5.out _
            have HT6 : Hid (Touch q w (w5.alloc (.cells #[i64 k1, i64 m1, .slice a1 n1 c1, .slice a2 n2 c2] 49))) := HT5.out.alloc _
            have HN6 : Hid ((w5.alloc (.cells #[i64 k1, i64 m1, .slice a1 n1 c1, .slice a2 n2 c2] 49)).heap[w5.heap.size]? = some (.cells #[i64 k1, i64 m1, .slice a1 n1 c1, .slice a2 n2 c2] 49)) := heap_last w5 _
            have HRT6 : Hid (Rd (w5.alloc (.cells #[i64 k1, i64 m1, .slice a1 n1 c1, .slice a2 n2 c2] 49)) (fun b => w.heap.size ≤ b ∧ b ≠ q ∧ b ≠ R) T (.slice a1 n1 c1) (.slice a2 n2 c2)) := HRT5.out.move (by simp) (fun b hb hlt => ⟨hb, Below.heap_alloc _ _ _ hlt⟩)
            refine wpL_one 2 rfl (by kernel_rfl) (by rfl) (fun K hK => ?_)
            go_simp
            refine hK.out _ _ (fun _ => HS6.out) ?_
            clear hK K
            obtain ⟨B, hB⟩ : ∃ B, B = w5.heap.size := ⟨_, rfl⟩
            have hBlo : X.heap.size ≤ B := by rw [hB]; exact hX5
            rw [← hB] at HN6 ⊢
            clear hB
            generalize (w5.alloc (.cells #[i64 k1, i64 m1, .slice a1 n1 c1, .slice a2 n2 c2] 49)) = w6 at *
            refine wpL_take 3 32 (.agg #[i64 3, i64 NV, .slice none 0 0, .slice (some ⟨B, 0, none⟩) 1 1]) [] rfl rfl (by kernel_rfl) (by decide) (by kernel_rfl) (by kernel_rfl) (by kernel_rfl) (fun _ _ _ h => h) HS6.out (by rfl) (fun W hW => by go_simp) ?_
            simp only [Act.put, List.setIfInBounds_toArray, List.set_cons_zero, List.set_cons_succ]
            have fr0 : w6.frozen? ⟨R, 0, none⟩ = false := blk_frozen HR6.out 0
            have fc0 : w6.cell? ⟨R, 0, none⟩ = some (i64 0) := blk_cell HR6.out 0
            have fr1 : w6.frozen? ⟨R, 1, none⟩ = false := blk_frozen HR6.out 1
            have fc1 : w6.cell? ⟨R, 1, none⟩ = some (i64 0) := blk_cell HR6.out 1
            have fr2 : w6.frozen? ⟨R, 2, none⟩ = false := blk_frozen HR6.out 2
            have fc2 : w6.cell? ⟨R, 2, none⟩ = some (.slice none 0 0) := blk_cell HR6.out 2
            have fr3 : w6.frozen? ⟨R, 3, none⟩ = false := blk_frozen HR6.out 3
            have fc3 : w6.cell? ⟨R, 3, none⟩ = some (.slice none 0 0) := blk_cell HR6.out 3
            refine wpL_one 9 rfl (by kernel_rfl) (by rfl) (fun K hK => ?_)
            go_simp
            refine hK.out _ _ (fun _ => set4_ne HS6.out (show Kb ≠ R by omega) _ _ _ _) ?_
            clear hK K
            refine wpL_one 10 rfl (by kernel_rfl) (by rfl) (fun K hK => ?_)
            go_simp
            refine hK.out _ _ (fun h => absurd rfl h) ?_
            clear hK K
            refine wpL_done (by kernel_rfl) ?_
            refine NoPanic.normal ?_
            go_wp2_with fail
            refine bodyPost_ret (v := .tuple #[tyV 3 NV (.slice none 0 0) (.slice (some ⟨B, 0, none⟩) 1 1), .bool false]) (results_cell Tryz.results116 rfl rfl (load25 (set4 HR6.out _ _ _ _))) rfl ?_
            exact ⟨3, NV, none, 0, 0, _, 1, 1, l3, by rw [HRes.out]; rfl, set4_ne HQ6.out hqR.out _ _ _ _, (by have h1 := HL3.out; have h2 := HL2.out; omega), HT6.out.set4 HRe.out _ _ _ _, fun T' r' h => by rw [HRes.out] at h; cases h⟩
    · skip
      go_wp2_with fail
      refine (take_miss w1 q 40 l1 (fun r e => hp ⟨r, e⟩) HQ1.out).mono ?_
      rintro e w2 ⟨rfl, hq2, ht2⟩
      have HQ2 := hid hq2
      have HT2 : Hid (Touch q w w2) := HT1.out.trans ht2
      have HR2 : Hid (w2.heap[R]? = some zT) := by show _ = _; rw [ht2.block R (blk_lt HR1.out) (fun e => hqR.out e.symm)]; exact HR1.out
      have HRes : Hid (res = none) := by
        show _ = _
        rw [HRes0.out]
        unfold listP
        rw [HNS2.out]
        split
        · rename_i heq
          cases heq
          exact absurd ⟨_, rfl⟩ hp
        · rfl
      clear hq2 ht2 fr0 fr1 fr2 fr3 fc0 fc1 fc2 fc3
      have fr0 : w2.frozen? ⟨R, 0, none⟩ = false := blk_frozen HR2.out 0
      have fc0 : w2.cell? ⟨R, 0, none⟩ = some (i64 0) := blk_cell HR2.out 0
      have fr1 : w2.frozen? ⟨R, 1, none⟩ = false := blk_frozen HR2.out 1
      have fc1 : w2.cell? ⟨R, 1, none⟩ = some (i64 0) := blk_cell HR2.out 1
      have fr2 : w2.frozen? ⟨R, 2, none⟩ = false := blk_frozen HR2.out 2
      have fc2 : w2.cell? ⟨R, 2, none⟩ = some (.slice none 0 0) := blk_cell HR2.out 2
      have fr3 : w2.frozen? ⟨R, 3, none⟩ = false := blk_frozen HR2.out 3
      have fc3 : w2.cell? ⟨R, 3, none⟩ = some (.slice none 0 0) := blk_cell HR2.out 3
      go_wp2_with fail
      refine bodyPost_ret (v := .tuple #[tyV 0 0 (.slice none 0 0) (.slice none 0 0), .bool false]) (results_cell Tryz.results116 rfl rfl (load25 (set4 HR2.out _ _ _ _))) rfl ?_
      exact ⟨0, 0, none, 0, 0, none, 0, 0, _, by rw [HRes.out]; rfl, set4_ne HQ2.out hqR.out _ _ _ _, HLn.out, HT2.out.set4 HRe.out _ _ _ _, fun T r h => by rw [HRes.out] at h; cases h⟩
end Go.Proofs.YtjppcfjjpkniaaaGreatDoor
namespace Go.Proofs.YtjppcfjjpkniaaaGreatDoor
open Go.ChangeShapes Go.WideShapes Go.ChangeAt Go.RowKit Go.Deep

abbrev Kd : Type := Ty × Value × Value
abbrev kc4 (x : Kd) : List Value := [i64 x.1.kind, i64 x.1.num, x.2.1, x.2.2]
def kcs (Ks : List Kd) : List Value := Ks.flatMap kc4
theorem kcs_app (a b : List Kd) : kcs (a ++ b) = kcs a ++ kcs b := by simp [kcs]
theorem kcs_len : ∀ a : List Kd, (kcs a).length = a.length * 4
  | [] => rfl
  | x :: r => by
    have := kcs_len r
    simp only [kcs, List.flatMap_cons, List.length_append, List.length_cons, List.length_nil] at this ⊢
    omega
theorem kcs_get : ∀ (Ks : List Kd) (i j : Nat) (x : Kd), Ks[i]? = some x → j < 4 → (kcs Ks)[i * 4 + j]? = (kc4 x)[j]?
  | [], i, _, _, h, _ => by simp at h
  | y :: r, 0, j, x, h, hj => by
    simp at h
    subst h
    simp only [kcs, List.flatMap_cons, Nat.zero_mul, Nat.zero_add]
    rw [List.getElem?_append_left (by simpa using hj)]
  | y :: r, i + 1, j, x, h, hj => by
    have ih := kcs_get r i j x (by simpa using h) hj
    simp only [kcs, List.flatMap_cons] at ih ⊢
    rw [List.getElem?_append_right (by simp; omega)]
    rw [← ih]
    congr 1
    simp
    omega
/-- A row of kids that grows: own, and what hangs below it stands elsewhere. -/
structure KidsR (V : World) (lo : Nat) (e : TypeId) (Av : Nat → Prop) (kv : Value) (Ks : List Kd) : Prop where
  own : V.ownsRow lo e 4 kv Ks.length (kcs Ks)
  sub : ∀ x ∈ Ks, Rd V (fun b => Av b ∧ some b ≠ kv.ownBlock) x.1 x.2.1 x.2.2
theorem KidsR.nil (V : World) (lo : Nat) (e : TypeId) (Av : Nat → Prop) : KidsR V lo e Av (.slice none 0 0) [] := ⟨⟨rfl, Or.inl ⟨rfl, rfl⟩⟩, fun x hx => by cases hx⟩
theorem KidsR.move {V V' : World} {lo : Nat} {e : TypeId} {Av Av' : Nat → Prop} {kv : Value} {Ks : List Kd} (h : KidsR V lo e Av kv Ks) (hz : V.heap.size ≤ V'.heap.size) (ho : ∀ k, kv.ownBlock = some k → V'.heap[k]? = V.heap[k]?) (hk : ∀ b, Av b → b < V.heap.size → some b ≠ kv.ownBlock → Av' b ∧ V'.heap[b]? = V.heap[b]?) : KidsR V' lo e Av' kv Ks :=
  ⟨own_keep1 h.own ho, fun x hx => (h.sub x hx).move hz fun b hb hlt => ⟨⟨(hk b hb.1 hlt hb.2).1, hb.2⟩, (hk b hb.1 hlt hb.2).2⟩⟩
/-- The type that the row's kids make. -/
theorem KidsR.rd {V : World} {lo : Nat} {e : TypeId} {Av S : Nat → Prop} {kv nv : Value} {Ks : List Kd} {k n : Int} {names : List Bs} (h : KidsR V lo e Av kv Ks) (hn : Strs V S nv names) (hS : ∀ b, Av b → b < V.heap.size → S b) (ho : ∀ b, kv.ownBlock = some b → S b) : Rd V S (.mk k n names (Ks.map (·.1))) nv kv := by
  rcases h.own.2 with ⟨hv, h0⟩ | ⟨g, cap, cur, hv, hb, hg, hc1, hc2, _, _⟩
  · subst hv
    have : Ks = [] := List.eq_nil_of_length_eq_zero h0
    subst this
    exact .mk (kids := []) 0 0 (fun _ => undef) (fun _ => undef) hn (Nat.zero_le _) (Or.inl rfl) (fun i T hT => by simp at hT) (fun i T hT => by simp at hT)
  · have hl : (Ks.map (·.1)).length = Ks.length := by simp
    subst hv
    have hcell : ∀ (i : Nat) (x : Kd), Ks[i]? = some x → V.rangeAt g (0 + i * 4) (kc4 x) := by
      intro i x hx j v hv
      have hj : j < 4 := by have := (List.getElem?_eq_some_iff.1 hv).1; simpa using this
      have hi := (List.getElem?_eq_some_iff.1 hx).1
      rw [Nat.zero_add, h.own.cellAt (i * 4 + j) (by omega), kcs_get Ks i j x hx hj]
      exact hv
    have hT : ∀ (i : Nat) (T : Ty), (Ks.map (·.1))[i]? = some T → ∃ x : Kd, Ks[i]? = some x ∧ x.1 = T := by
      intro i T h1
      rw [List.getElem?_map] at h1
      obtain ⟨x, h2, h3⟩ := Option.map_eq_some_iff.1 h1
      exact ⟨x, h2, h3⟩
    rw [← hl]
    refine .mk (kids := Ks.map (·.1)) g 0 (fun i => (Ks.getD i (.mk 0 0 [] [], undef, undef)).2.1) (fun i => (Ks.getD i (.mk 0 0 [] [], undef, undef)).2.2) hn (by rw [hl]; omega) (Or.inr ⟨rfl, ho g rfl, blk_lt hg⟩) ?_ ?_
    · intro i T h1
      obtain ⟨x, h2, rfl⟩ := hT i T h1
      have := hcell i x h2
      simpa [List.getD_eq_getElem?_getD, h2] using this
    · intro i T h1
      obtain ⟨x, h2, rfl⟩ := hT i T h1
      have := (h.sub x (List.mem_of_getElem? h2)).mono (S' := S) (fun b hb hlt => hS b hb.1 hlt)
      simpa [List.getD_eq_getElem?_getD, h2] using this
/-- A row of names that grows. -/
theorem own_strs {V : World} {lo : Nat} {S : Nat → Prop} {nv : Value} {l : List Bs} (h : V.ownsRow lo 9 1 nv l.length (l.map str)) (hs : ∀ x ∈ l, x.length ≤ maxLen) (ho : ∀ b, nv.ownBlock = some b → S b) : Strs V S nv l := by
  rcases h.2 with ⟨hv, h0⟩ | ⟨g, cap, cur, hv, hb, hg, hc1, hc2, _, _⟩
  · subst hv
    have : l = [] := List.eq_nil_of_length_eq_zero h0
    subst this
    exact ⟨none, 0, rfl, Nat.zero_le _, ⟨Nat.le_refl _, hs⟩, Or.inl rfl⟩
  · subst hv
    refine ⟨_, cap, rfl, by omega, ⟨hc1, hs⟩, Or.inr ⟨g, 0, rfl, ho g rfl, blk_lt hg, fun i x hx => ?_⟩⟩
    have hi := (List.getElem?_eq_some_iff.1 hx).1
    rw [Nat.zero_add, h.cellAt i (by omega)]
    simp [hx]
theorem own_tag {V : World} {lo : Nat} {e : TypeId} {s : Nat} {v : Value} {n : Nat} {xs : List Value} (h : V.ownsRow lo e s v n xs) {k : Nat} (hk : v.ownBlock = some k) : ∃ cur, V.heap[k]? = some (.cells cur e) := by
  rcases h.2 with ⟨rfl, _⟩ | ⟨g, cap, cur, rfl, _, hg, _⟩
  · simp [Value.ownBlock] at hk
  · simp [Value.ownBlock] at hk
    subst hk
    exact ⟨cur, hg⟩
theorem own_apart {V : World} {lo lo' : Nat} {e e' : TypeId} {s s' : Nat} {v v' : Value} {n n' : Nat} {xs xs' : List Value} (h : V.ownsRow lo e s v n xs) (h' : V.ownsRow lo' e' s' v' n' xs') (hne : e ≠ e') {k : Nat} (hk : v.ownBlock = some k) : some k ≠ v'.ownBlock := fun hE => by
  obtain ⟨c, h1⟩ := own_tag h hk
  obtain ⟨c', h2⟩ := own_tag h' hE.symm
  rw [h1] at h2
  cases h2
  exact hne rfl
theorem under22 : Tryz.prog.underlying 46 = some (.slice 9) := Tryz.underlying46
theorem under23 : Tryz.prog.underlying 47 = some (.slice 49) := Tryz.underlying47
theorem under35 : Tryz.prog.underlying 62 = some (.slice 64) := Tryz.underlying62
theorem info9 : (Tryz.prog.info? 9).map (fun i => (i.zero, i.size, i.bytes)) = some (some (.string ⟨#[]⟩), 1, 16) := by kernel_rfl
theorem info25 : (Tryz.prog.info? 49).map (fun i => (i.zero, i.size, i.bytes)) = some (some (.agg #[i64 0, i64 0, .slice none 0 0, .slice none 0 0]), 4, 64) := by kernel_rfl
theorem info37 : (Tryz.prog.info? 64).map (fun i => (i.zero, i.size, i.bytes)) = some (some (.agg #[i64 0, i64 0, .slice none 0 0, .slice none 0 0]), 4, 64) := by kernel_rfl
/-- A name more. -/
theorem push_name {V : World} {lo : Nat} {nv : Value} {l : List Bs} (h : V.ownsRow lo 9 1 nv l.length (l.map str)) (x : Bs) (hl : l.length ≤ 1000) (hlo : lo ≤ V.heap.size) :
    ∃ ao cap w', (Builtin.append_ #[46, 46] 46 #[nv, .slice (some ⟨V.heap.size, 0, none⟩) 1 1]).run Tryz.prog (V.alloc (.cells #[str x] 9)) = .ok (.slice ao (l.length + 1) cap) w' ∧ w'.ownsRow lo 9 1 (.slice ao (l.length + 1) cap) (l ++ [x]).length ((l ++ [x]).map str) ∧ Fr lo [9] V w' ∧ (∀ k, k < V.heap.size → some k ≠ nv.ownBlock → w'.heap[k]? = V.heap[k]?) ∧ ((Value.slice ao (l.length + 1) cap).ownBlock = nv.ownBlock ∨ (Value.slice ao (l.length + 1) cap).ownBlock = some (V.heap.size + 1)) := by
  obtain ⟨ao, cap, w', h1, h2, h3⟩ := app_far (te := 9) under22 info9 rfl (by omega) (by omega) h [str x] rfl (fun u hu => by rw [List.mem_singleton.1 hu]; rfl) (by omega) hlo
  exact ⟨ao, cap, w', h1, by simpa using h2, h3⟩
/-- A kid more. -/
theorem push_kid {ts e : TypeId} (hu : Tryz.prog.underlying ts = some (.slice e)) (hi : (Tryz.prog.info? e).map (fun i => (i.zero, i.size, i.bytes)) = some (some (.agg #[i64 0, i64 0, .slice none 0 0, .slice none 0 0]), 4, 64)) {V : World} {lo : Nat} {Av : Nat → Prop} {kv : Value} {Ks : List Kd} (h : KidsR V lo e Av kv Ks) (T : Ty) (a1 : Option Addr) (n1 c1 : Nat) (a2 : Option Addr) (n2 c2 : Nat)
    (hR : Rd V (fun b => Av b ∧ some b ≠ kv.ownBlock) T (.slice a1 n1 c1) (.slice a2 n2 c2)) (hl : Ks.length ≤ 1000) (hlo : lo ≤ V.heap.size) :
    ∃ ao cap w', (Builtin.append_ #[ts, ts] ts #[kv, .slice (some ⟨V.heap.size, 0, none⟩) 1 1]).run Tryz.prog (V.alloc (.cells #[i64 T.kind, i64 T.num, .slice a1 n1 c1, .slice a2 n2 c2] e)) = .ok (.slice ao (Ks.length + 1) cap) w' ∧ KidsR w' lo e Av (.slice ao (Ks.length + 1) cap) (Ks ++ [(T, .slice a1 n1 c1, .slice a2 n2 c2)]) ∧ Fr lo [e] V w' ∧ (∀ k, k < V.heap.size → some k ≠ kv.ownBlock → w'.heap[k]? = V.heap[k]?) ∧ ((Value.slice ao (Ks.length + 1) cap).ownBlock = kv.ownBlock ∨ (Value.slice ao (Ks.length + 1) cap).ownBlock = some (V.heap.size + 1)) := by
  obtain ⟨ao, cap, w', h1, h2, h3, h4, h5⟩ := app_far (te := e) hu hi rfl (by omega) (by omega) h.own [i64 T.kind, i64 T.num, .slice a1 n1 c1, .slice a2 n2 c2] rfl (fun u hu => by
    simp only [List.mem_cons, List.not_mem_nil, or_false] at hu
    rcases hu with rfl | rfl | rfl | rfl <;> rfl) (by omega) hlo
  have hmv : ∀ x : Kd, Rd V (fun b => Av b ∧ some b ≠ kv.ownBlock) x.1 x.2.1 x.2.2 → Rd w' (fun b => Av b ∧ some b ≠ (Value.slice ao (Ks.length + 1) cap).ownBlock) x.1 x.2.1 x.2.2 := fun x hx => hx.move h3.size fun b hb hlt => ⟨⟨hb.1, by
    rcases h5 with h5 | h5
    · rw [h5]; exact hb.2
    · rw [h5]; intro e; cases e; omega⟩, h4 b hlt hb.2⟩
  refine ⟨ao, cap, w', h1, ⟨?_, ?_⟩, h3, h4, h5⟩
  · rw [List.length_append, kcs_app]
    exact h2
  · intro x hx
    rcases List.mem_append.1 hx with hx | hx
    · exact hmv x (h.sub x hx)
    · rw [List.mem_singleton.1 hx]; exact hmv (T, _, _) hR
end Go.Proofs.YtjppcfjjpkniaaaGreatDoor
namespace Go.Proofs.YtjppcfjjpkniaaaGreatDoor
open Go.ChangeShapes Go.WideShapes Go.ChangeAt Go.RowKit Go.Deep
attribute [local go_sem ↓] Go.wp_at_zero Go.wp_at_succ

theorem bz (l : Bs) : (⟨l.toArray⟩ : ByteArray).size = l.length := by show l.toArray.size = _; simp
theorem ba_append (p b : Bs) : (⟨p.toArray⟩ : ByteArray) ++ (⟨b.toArray⟩ : ByteArray) = ⟨(p ++ b).toArray⟩ := by
  apply ByteArray.ext
  simp
/-- What Itoa asks of the world. -/
def Pw (w : World) : Prop := Lib.TabIs Tryz.prog w "internal/strconv.uint64pow10" .u64 Lib.pow10Tab
theorem Pw.below {w w' : World} (h : Pw w) (hb : Below w.heap.size w w') : Pw w' := by
  have hg : Tryz.prog.globalNamed "internal/strconv.uint64pow10" = some 6 := by kernel_rfl
  unfold Pw Lib.TabIs World.var? at *
  rw [hg, Option.bind_some] at h ⊢
  rcases Nat.lt_or_ge 6 w.heap.size with e | e
  · rw [hb.block 6 e]; exact h
  · rw [Array.getElem?_eq_none e] at h; cases h
theorem grow_below (w : World) (k : Nat) (os : Array Obj) : Below w.heap.size w (Sort.grow (w.drewN k) os) := by
  refine ⟨rfl, rfl, rfl, by simp [Sort.grow], fun j hj => ?_⟩
  show (w.heap ++ os)[j]? = _
  rw [Array.getElem?_append_left hj]
theorem itoa_w (w : World) (hp : Pw w) (n : Int) (h0 : 0 ≤ n) (h1 : n ≤ 65535) : Calls Tryz.prog 71 #[i64 n] w fun e w' => e = .returned (str (Lib.itoa n)) ∧ Below w.heap.size w w' := by
  refine (Tryz.strconv_Itoa n (by omega) (by omega) w hp).mono ?_
  rintro e w' ⟨rfl, k, os, rfl⟩
  exact ⟨rfl, grow_below _ _ _⟩
def fieldL : List Bs → List Bs → List Bs
  | a :: r, x :: s => (a ++ 58 :: x) :: fieldL r s
  | _, _ => []
theorem fieldL_len : ∀ (a x : List Bs), a.length = x.length → (fieldL a x).length = a.length
  | [], [], _ => rfl
  | _ :: r, _ :: s, h => by simp [fieldL, fieldL_len r s (by simpa using h)]
theorem fieldL_get : ∀ (a x : List Bs) (i : Nat) (h1 : i < a.length) (h2 : i < x.length), (fieldL a x)[i]? = some (a[i] ++ 58 :: x[i])
  | _ :: _, _ :: _, 0, _, _ => rfl
  | _ :: r, _ :: s, i + 1, h1, h2 => by
    have := fieldL_get r s i (by simpa using h1) (by simpa using h2)
    simpa [fieldL] using this
theorem join_field : ∀ (a x : List Bs), a.length = x.length → Lib.join (fieldL a x) [44] = fieldT a x
  | [], [], _ => rfl
  | [a], [x], _ => by simp [fieldL, fieldT, Lib.join_one]
  | a :: b :: r, x :: y :: s, h => by
    have ih := join_field (b :: r) (y :: s) (by simpa using h)
    have e : Lib.join (fieldL (a :: b :: r) (x :: y :: s)) [44] = (a ++ 58 :: x) ++ 44 :: Lib.join (fieldL (b :: r) (y :: s)) [44] := by
      show ([44] : Bs).intercalate ((a ++ 58 :: x) :: fieldL (b :: r) (y :: s)) = _
      simp only [fieldL, Lib.join, List.intercalate, List.intersperse_cons_cons, List.flatten_cons]
      rfl
    rw [e, ih]
    simp [fieldT]
theorem txtL_get (l : List Ty) (i : Nat) (h : i < l.length) (h' : i < (txtL l).length) : (txtL l)[i] = l[i].txt := by
  induction l generalizing i with
  | nil => simp at h
  | cons t r ih =>
    cases i with
    | zero => rfl
    | succ i => exact ih i (by simpa using h) (by simpa [txtL] using h')
theorem txt_1 (n : Int) : (Ty.mk 1 n [] []).txt = 105 :: Lib.itoa n := by simp [Ty.txt]
theorem txt_2 (n : Int) : (Ty.mk 2 n [] []).txt = 116 :: Lib.itoa n := by simp [Ty.txt]
theorem txt_3 (n : Int) (T : Ty) : (Ty.mk 3 n [] [T]).txt = 108 :: (Lib.itoa n ++ 40 :: (T.txt ++ [41])) := by simp [Ty.txt, txtL]
theorem txt_4 (names : List Bs) (kids : List Ty) : (Ty.mk 4 0 names kids).txt = 114 :: 40 :: (fieldT names (txtL kids) ++ [41]) := by simp [Ty.txt]
theorem fieldT_le : ∀ (a : List Bs) (ks : List Ty), a.length = ks.length → (∀ x ∈ a, x.length ≤ 8) → (∀ T ∈ ks, T.txt.length + 16 ≤ 32 * T.count) → (fieldT a (txtL ks)).length ≤ 32 * countL ks
  | [], [], _, _, _ => by simp [fieldT]
  | a :: r, T :: s, h, h1, h2 => by
    have ih := fieldT_le r s (by simpa using h) (fun x hx => h1 x (by simp [hx])) (fun T hT => h2 T (by simp [hT]))
    have g1 := h1 a (by simp)
    have g2 := h2 T (by simp)
    rw [txtL, fieldT_cons (by rw [txtL_len]; simpa using h)]
    simp only [countL, List.length_append, List.length_cons]
    split
    · simp; omega
    · simp only [List.length_cons]; omega
theorem nameB_le {a : Bs} (h : nameB a = true) : a.length ≤ 8 := by
  unfold nameB at h
  simp only [Bool.and_eq_true, decide_eq_true_eq] at h
  exact h.2
theorem txt_le : ∀ (M : Nat) (T : Ty), T.count ≤ M → T.formed = true → T.txt.length + 16 ≤ 32 * T.count
  | 0, T, h, _ => by have := count_pos T; omega
  | M + 1, .mk k n names kids, h, hf => by
    simp only [Ty.count] at h ⊢
    simp only [Ty.formed, Bool.and_eq_true] at hf
    obtain ⟨hn, hl⟩ := hf
    have hnode := nodeB_node hn
    generalize hkn : kids.length = kn at hnode
    cases hnode with
    | int h0 h1 =>
      obtain rfl := List.eq_nil_of_length_eq_zero hkn
      have := (itoa_ok3 n h0 h1).le
      rw [txt_1]; simp only [List.length_cons, countL]; omega
    | text h0 h1 =>
      obtain rfl := List.eq_nil_of_length_eq_zero hkn
      have := (itoa_ok3 n h0 h1).le
      rw [txt_2]; simp only [List.length_cons, countL]; omega
    | list h0 h1 =>
      obtain ⟨T, rfl⟩ : ∃ T, kids = [T] := by cases kids with
        | nil => simp at hkn
        | cons T r => have : r = [] := by simpa using hkn
                      exact ⟨T, by rw [this]⟩
      have := (itoa_ok3 n h0 h1).le
      have ih := txt_le M T (by simp [countL] at h; omega) (formedL_mem hl (by simp))
      rw [txt_3]; simp only [List.length_cons, List.length_append, countL, List.length_nil]; omega
    | rc h0 h1 h2 h3 =>
      have := fieldT_le names kids (by omega) (fun x hx => nameB_le (namesTo_mem h3 hx)) (fun T hT => txt_le M T (by have := countL_mem hT; omega) (formedL_mem hl hT))
      rw [txt_4]; simp only [List.length_cons, List.length_append, List.length_nil]; omega
set_option maxRecDepth 100000 in
set_option maxHeartbeats 3200000 in
theorem text_1 (n : Int) (w : World) (S : Nat → Prop) (nv kv : Value) (hP : Pw w) (h0 : 0 ≤ n) (h1 : n ≤ 255) (hR : Rd w S (.mk 1 n [] []) nv kv) : Calls Tryz.prog 93 #[tyV 1 n nv kv] w fun e w' => e = .returned (str (Ty.mk 1 n [] []).txt) ∧ Below w.heap.size w w' := by
  have HRES : Hid (str (Ty.mk 1 n [] []).txt = .string ((⟨#[105]⟩ : ByteArray) ++ ⟨(Lib.itoa n).toArray⟩)) := by
    show _ = _
    rw [txt_1]
    exact congrArg Value.string (ba_append [105] (Lib.itoa n)).symm
  have HP := hid hP
  have hle := (itoa_ok3 n h0 h1).le
  generalize (Ty.mk 1 n [] []).txt = TX at *
  obtain ⟨k, hk⟩ : ∃ k : Int, k = 1 := ⟨_, rfl⟩
  obtain ⟨names, hnm⟩ : ∃ names : List Bs, names = [] := ⟨_, rfl⟩
  obtain ⟨kids, hkd⟩ : ∃ kids : List Ty, kids = [] := ⟨_, rfl⟩
  rw [← hk, ← hnm, ← hkd] at hR
  rw [← hk]
  have HKe := hid hk
  have HNe := hid hnm
  have HKd := hid hkd
  clear hk hnm hkd
  have HRd : Hid (Rd w S (.mk k n names kids) nv kv) := hR
  obtain ⟨⟨an, cn, rfl, hnl, hz1, hz2⟩, hkl, ak, ck, rfl, hz3⟩ := hR.kid
  clear hz1 hz2 hz3
  unfold maxLen at hnl hkl
  have HX : Hid ((w.alloc (.cells #[i64 k, i64 n, .slice an names.length cn, .slice ak kids.length ck] 49)).heap[w.heap.size]? = some (.cells #[i64 k, i64 n, .slice an names.length cn, .slice ak kids.length ck] 49)) := heap_last w _
  have HBV : Hid (Below w.heap.size w (w.alloc (.cells #[i64 k, i64 n, .slice an names.length cn, .slice ak kids.length ck] 49))) := below_one w _
  clear hR hP
  go_enter Tryz.func93, Tryz.ntmps93
  go_upto_region 1 with fail
  obtain ⟨Z, hZ⟩ : ∃ Z, Z = w.heap.size := ⟨_, rfl⟩
  rw [← hZ] at HX ⊢
  generalize w.alloc (.cells #[i64 k, i64 n, .slice an names.length cn, .slice ak kids.length ck] 49) = V at *
  have y0 : V.cell? ⟨Z, 0, none⟩ = some (i64 k) := blk_cell HX.out 0
  have y1 : V.cell? ⟨Z, 1, none⟩ = some (i64 n) := blk_cell HX.out 1
  have y2 : V.cell? ⟨Z, 2, none⟩ = some (.slice an names.length cn) := blk_cell HX.out 2
  have y3 : V.cell? ⟨Z, 3, none⟩ = some (.slice ak kids.length ck) := blk_cell HX.out 3
  have hZV : Z < V.heap.size := blk_lt HX.out
  have HZ := hid hZ
  clear hZ
  have HIT : Hid (Calls Tryz.prog 71 #[i64 n] V fun e w' => e = .returned (str (Lib.itoa n)) ∧ Below V.heap.size V w') := itoa_w V (HP.out.below (HZ.out ▸ HBV.out)) n h0 (by omega)
  have hbz := bz (Lib.itoa n)
  generalize Lib.itoa n = IT at *
  go_wp2_with fail
  refine HIT.out.mono ?_
  rintro e w1 ⟨rfl, hb1⟩
  have HB1 : Hid (Below w.heap.size w w1) := HBV.out.trans (hb1.mono HBV.out.size)
  have HX1 := hid (blk_below HX.out hb1)
  clear hb1 y0 y1 y2 y3
  have y0 : w1.cell? ⟨Z, 0, none⟩ = some (i64 k) := blk_cell HX1.out 0
  have hk := HKe.out
  subst hk
  go_wp2_with fail
  go_ret
  exact ⟨by rw [HRES.out]; rfl, HB1.out⟩
set_option maxRecDepth 100000 in
set_option maxHeartbeats 3200000 in
theorem text_2 (n : Int) (w : World) (S : Nat → Prop) (nv kv : Value) (hP : Pw w) (h0 : 0 ≤ n) (h1 : n ≤ 255) (hR : Rd w S (.mk 2 n [] []) nv kv) : Calls Tryz.prog 93 #[tyV 2 n nv kv] w fun e w' => e = .returned (str (Ty.mk 2 n [] []).txt) ∧ Below w.heap.size w w' := by
  have HRES : Hid (str (Ty.mk 2 n [] []).txt = .string ((⟨#[116]⟩ : ByteArray) ++ ⟨(Lib.itoa n).toArray⟩)) := by
    show _ = _
    rw [txt_2]
    exact congrArg Value.string (ba_append [116] (Lib.itoa n)).symm
  have HP := hid hP
  have hle := (itoa_ok3 n h0 h1).le
  generalize (Ty.mk 2 n [] []).txt = TX at *
  obtain ⟨k, hk⟩ : ∃ k : Int, k = 2 := ⟨_, rfl⟩
  obtain ⟨names, hnm⟩ : ∃ names : List Bs, names = [] := ⟨_, rfl⟩
  obtain ⟨kids, hkd⟩ : ∃ kids : List Ty, kids = [] := ⟨_, rfl⟩
  rw [← hk, ← hnm, ← hkd] at hR
  rw [← hk]
  have HKe := hid hk
  have HNe := hid hnm
  have HKd := hid hkd
  clear hk hnm hkd
  have HRd : Hid (Rd w S (.mk k n names kids) nv kv) := hR
  obtain ⟨⟨an, cn, rfl, hnl, hz1, hz2⟩, hkl, ak, ck, rfl, hz3⟩ := hR.kid
  clear hz1 hz2 hz3
  unfold maxLen at hnl hkl
  have HX : Hid ((w.alloc (.cells #[i64 k, i64 n, .slice an names.length cn, .slice ak kids.length ck] 49)).heap[w.heap.size]? = some (.cells #[i64 k, i64 n, .slice an names.length cn, .slice ak kids.length ck] 49)) := heap_last w _
  have HBV : Hid (Below w.heap.size w (w.alloc (.cells #[i64 k, i64 n, .slice an names.length cn, .slice ak kids.length ck] 49))) := below_one w _
  clear hR hP
  go_enter Tryz.func93, Tryz.ntmps93
  go_upto_region 1 with fail
  obtain ⟨Z, hZ⟩ : ∃ Z, Z = w.heap.size := ⟨_, rfl⟩
  rw [← hZ] at HX ⊢
  generalize w.alloc (.cells #[i64 k, i64 n, .slice an names.length cn, .slice ak kids.length ck] 49) = V at *
  have y0 : V.cell? ⟨Z, 0, none⟩ = some (i64 k) := blk_cell HX.out 0
  have y1 : V.cell? ⟨Z, 1, none⟩ = some (i64 n) := blk_cell HX.out 1
  have y2 : V.cell? ⟨Z, 2, none⟩ = some (.slice an names.length cn) := blk_cell HX.out 2
  have y3 : V.cell? ⟨Z, 3, none⟩ = some (.slice ak kids.length ck) := blk_cell HX.out 3
  have hZV : Z < V.heap.size := blk_lt HX.out
  have HZ := hid hZ
  clear hZ
  have HIT : Hid (Calls Tryz.prog 71 #[i64 n] V fun e w' => e = .returned (str (Lib.itoa n)) ∧ Below V.heap.size V w') := itoa_w V (HP.out.below (HZ.out ▸ HBV.out)) n h0 (by omega)
  have hbz := bz (Lib.itoa n)
  generalize Lib.itoa n = IT at *
  go_wp2_with fail
  refine HIT.out.mono ?_
  rintro e w1 ⟨rfl, hb1⟩
  have HB1 : Hid (Below w.heap.size w w1) := HBV.out.trans (hb1.mono HBV.out.size)
  have HX1 := hid (blk_below HX.out hb1)
  clear hb1 y0 y1 y2 y3
  have y0 : w1.cell? ⟨Z, 0, none⟩ = some (i64 k) := blk_cell HX1.out 0
  have hk := HKe.out
  subst hk
  go_wp2_with fail
  go_ret
  exact ⟨by rw [HRES.out]; rfl, HB1.out⟩
set_option maxRecDepth 100000 in
set_option maxHeartbeats 3200000 in
theorem text_3 (n : Int) (T : Ty) (w : World) (S : Nat → Prop) (nv kv : Value) (hP : Pw w) (h0 : 0 ≤ n) (h1 : n ≤ 255) (hR : Rd w S (.mk 3 n [] [T]) nv kv) (hln : T.txt.length ≤ 3000000)
    (hih : ∀ (w : World) (nv kv : Value), Pw w → Rd w S T nv kv → Calls Tryz.prog 93 #[tyV T.kind T.num nv kv] w fun e w' => e = .returned (str T.txt) ∧ Below w.heap.size w w') : Calls Tryz.prog 93 #[tyV 3 n nv kv] w fun e w' => e = .returned (str (Ty.mk 3 n [] [T]).txt) ∧ Below w.heap.size w w' := by
  have HRES : Hid (str (Ty.mk 3 n [] [T]).txt = .string ((((⟨#[108]⟩ : ByteArray) ++ ⟨(Lib.itoa n).toArray⟩) ++ ⟨#[40]⟩) ++ ⟨T.txt.toArray⟩ ++ ⟨#[41]⟩)) := by
    show _ = _
    rw [txt_3]
    refine congrArg Value.string ?_
    apply ByteArray.ext
    simp
  have HP := hid hP
  have HIH := hid hih
  have hle := (itoa_ok3 n h0 h1).le
  generalize (Ty.mk 3 n [] [T]).txt = TX at *
  obtain ⟨k, hk⟩ : ∃ k : Int, k = 3 := ⟨_, rfl⟩
  obtain ⟨names, hnm⟩ : ∃ names : List Bs, names = [] := ⟨_, rfl⟩
  obtain ⟨kids, hkd⟩ : ∃ kids : List Ty, kids = [T] := ⟨_, rfl⟩
  rw [← hk, ← hnm, ← hkd] at hR
  rw [← hk]
  have HKe := hid hk
  have HNe := hid hnm
  have HKd := hid hkd
  clear hk hnm hkd
  have HRd : Hid (Rd w S (.mk k n names kids) nv kv) := hR
  obtain ⟨⟨an, cn, rfl, hnl, hz1, hz2⟩, hkl, ak, ck, rfl, hz3⟩ := hR.kid
  clear hz1 hz2 hz3
  unfold maxLen at hnl hkl
  have HX : Hid ((w.alloc (.cells #[i64 k, i64 n, .slice an names.length cn, .slice ak kids.length ck] 49)).heap[w.heap.size]? = some (.cells #[i64 k, i64 n, .slice an names.length cn, .slice ak kids.length ck] 49)) := heap_last w _
  have HBV : Hid (Below w.heap.size w (w.alloc (.cells #[i64 k, i64 n, .slice an names.length cn, .slice ak kids.length ck] 49))) := below_one w _
  clear hR hP hih
  go_enter Tryz.func93, Tryz.ntmps93
  go_upto_region 1 with fail
  obtain ⟨Z, hZ⟩ : ∃ Z, Z = w.heap.size := ⟨_, rfl⟩
  rw [← hZ] at HX ⊢
  generalize w.alloc (.cells #[i64 k, i64 n, .slice an names.length cn, .slice ak kids.length ck] 49) = V at *
  have y0 : V.cell? ⟨Z, 0, none⟩ = some (i64 k) := blk_cell HX.out 0
  have y1 : V.cell? ⟨Z, 1, none⟩ = some (i64 n) := blk_cell HX.out 1
  have y2 : V.cell? ⟨Z, 2, none⟩ = some (.slice an names.length cn) := blk_cell HX.out 2
  have y3 : V.cell? ⟨Z, 3, none⟩ = some (.slice ak kids.length ck) := blk_cell HX.out 3
  have hZV : Z < V.heap.size := blk_lt HX.out
  have HZ := hid hZ
  clear hZ
  have HIT : Hid (Calls Tryz.prog 71 #[i64 n] V fun e w' => e = .returned (str (Lib.itoa n)) ∧ Below V.heap.size V w') := itoa_w V (HP.out.below (HZ.out ▸ HBV.out)) n h0 (by omega)
  have hbz := bz (Lib.itoa n)
  have hbt := bz T.txt
  have hk1 : kids.length = 1 := by rw [HKd.out]; rfl
  have HK1 := hid hk1
  generalize Lib.itoa n = IT at *
  generalize T.txt = TT at *
  clear hk1
  go_wp2_with fail
  refine HIT.out.mono ?_
  rintro e w1 ⟨rfl, hb1⟩
  have HB1 : Hid (Below w.heap.size w w1) := HBV.out.trans (hb1.mono HBV.out.size)
  have HX1 := hid (blk_below HX.out hb1)
  have HP1 : Hid (Pw w1) := HP.out.below HB1.out
  obtain ⟨_, _, ak1, ck1, he, hkid⟩ := (HRd.out.under HB1.out).kid
  cases he
  obtain ⟨b, off, nv2, kv2, rfl, hbS, hblt, hr, hrd⟩ := hkid 0 (by have := HK1.out; omega)
  have hT0 : kids[0]'(by have := HK1.out; omega) = T := by have := HKd.out; subst this; rfl
  rw [hT0] at hr hrd
  have c0 : w1.cell? ⟨b, off, none⟩ = some (i64 T.kind) := by have := hr 0 _ rfl; simpa using this
  have c1 : w1.cell? ⟨b, off + 1, none⟩ = some (i64 T.num) := by have := hr 1 _ rfl; simpa using this
  have c2 : w1.cell? ⟨b, off + 2, none⟩ = some nv2 := by have := hr 2 _ rfl; simpa using this
  have c3 : w1.cell? ⟨b, off + 3, none⟩ = some kv2 := by have := hr 3 _ rfl; simpa using this
  obtain ⟨an2, cn2, rfl, ak2, ck2, rfl⟩ := hrd.form
  have HCA := hid (HIH.out w1 _ _ HP1.out hrd)
  clear hb1 y0 y1 y2 y3 hT0 hr hrd hkid hbS
  have y0 : w1.cell? ⟨Z, 0, none⟩ = some (i64 k) := blk_cell HX1.out 0
  have y3 : w1.cell? ⟨Z, 3, none⟩ = some (.slice (some ⟨b, off, none⟩) kids.length ck) := blk_cell HX1.out 3
  rw [HK1.out] at y3
  have hk := HKe.out
  subst hk
  go_wp2_with fail
  refine HCA.out.mono ?_
  rintro e w2 ⟨rfl, hb2⟩
  have HB2 : Hid (Below w.heap.size w w2) := HB1.out.trans (hb2.mono HB1.out.size)
  clear hb2
  go_wp2_with fail
  go_ret
  exact ⟨by rw [HRES.out]; rfl, HB2.out⟩
end Go.Proofs.YtjppcfjjpkniaaaGreatDoor
namespace Go.Proofs.YtjppcfjjpkniaaaGreatDoor

/-- A statement, as a tree. -/
inductive Sm where
  | mk (op n : Int) (nm dst : Bs) (names : List Bs) (t : Ty) (body : List Sm)
def Sm.op : Sm → Int | .mk o _ _ _ _ _ _ => o
def Sm.num : Sm → Int | .mk _ n _ _ _ _ _ => n
def Sm.nm : Sm → Bs | .mk _ _ a _ _ _ _ => a
def Sm.dst : Sm → Bs | .mk _ _ _ b _ _ _ => b
def Sm.names : Sm → List Bs | .mk _ _ _ _ l _ _ => l
def Sm.ty : Sm → Ty | .mk _ _ _ _ _ t _ => t
def Sm.body : Sm → List Sm | .mk _ _ _ _ _ _ l => l
theorem Sm.eta (s : Sm) : s = .mk s.op s.num s.nm s.dst s.names s.ty s.body := by cases s; rfl
mutual
def Sm.count : Sm → Nat | .mk _ _ _ _ _ _ l => 1 + cntL l
def cntL : List Sm → Nat | [] => 0 | s :: r => s.count + cntL r
end
theorem cntL_app : ∀ a b : List Sm, cntL (a ++ b) = cntL a + cntL b
  | [], b => by simp [cntL]
  | s :: a, b => by simp only [List.cons_append, cntL, cntL_app a b]; omega
abbrev ty0 : Ty := .mk 0 0 [] []

/-! ### Words and lines -/
def wd (s : Bs) : Bs := s.takeWhile (fun b => b != 32)
def trimL (s : Bs) : Bs := s.dropWhile (fun b => b == 32)
def aft (s : Bs) : Bs := trimL (s.dropWhile (fun b => b != 32)).tail
def wordsN : Nat → Bs → List Bs
  | 0, _ => []
  | f + 1, s => if s = [] then [] else wd s :: wordsN f (aft s)
def wordsF (s : Bs) : List Bs := wordsN s.length s
theorem trimL_len (s : Bs) : (trimL s).length ≤ s.length := (List.dropWhile_sublist _).length_le
theorem aft_lt {s : Bs} (h : s ≠ []) : (aft s).length < s.length := by
  unfold aft
  have h1 := trimL_len (s.dropWhile (fun b => b != 32)).tail
  have h2 := (List.dropWhile_sublist (fun b => b != 32) (l := s)).length_le
  have h3 : 0 < s.length := List.length_pos_iff.2 h
  rw [List.length_tail] at h1
  omega
theorem wordsN_any : ∀ (f g : Nat) (s : Bs), s.length ≤ f → s.length ≤ g → wordsN f s = wordsN g s
  | 0, 0, _, _, _ => rfl
  | 0, g + 1, s, h, _ => by
    have : s = [] := List.eq_nil_of_length_eq_zero (by omega)
    subst this; simp [wordsN]
  | f + 1, 0, s, _, h => by
    have : s = [] := List.eq_nil_of_length_eq_zero (by omega)
    subst this; simp [wordsN]
  | f + 1, g + 1, s, h1, h2 => by
    unfold wordsN
    by_cases h : s = []
    · rw [if_pos h, if_pos h]
    · have := aft_lt h
      rw [if_neg h, if_neg h, wordsN_any f g (aft s) (by omega) (by omega)]
theorem wordsF_nil : wordsF [] = [] := rfl
theorem wordsF_cons {s : Bs} (h : s ≠ []) : wordsF s = wd s :: wordsF (aft s) := by
  have h3 : 0 < s.length := List.length_pos_iff.2 h
  have := aft_lt h
  unfold wordsF
  obtain ⟨k, hk⟩ : ∃ k, s.length = k + 1 := ⟨s.length - 1, by omega⟩
  rw [hk]
  conv => lhs; unfold wordsN
  rw [if_neg h, wordsN_any k (aft s).length (aft s) (by omega) (Nat.le_refl _)]
theorem wordsF_len : ∀ (n : Nat) (s : Bs), s.length ≤ n → (wordsF s).length ≤ s.length
  | n, [], _ => by simp [wordsF_nil]
  | 0, c :: r, h => by simp at h
  | n + 1, c :: r, h => by
    rw [wordsF_cons (by simp)]
    have h1 := aft_lt (s := c :: r) (by simp)
    have := wordsF_len n (aft (c :: r)) (by omega)
    rw [List.length_cons]
    omega
/-- A text that begins with no space. -/
def Trm (s : Bs) : Prop := s.head? ≠ some 32
theorem trm_trim : ∀ s : Bs, Trm (trimL s)
  | [] => by simp [Trm, trimL]
  | c :: r => by
    unfold trimL
    rw [List.dropWhile_cons]
    split
    · exact trm_trim r
    · rename_i h
      unfold Trm
      simp at h
      simpa using h
theorem trm_aft (s : Bs) : Trm (aft s) := trm_trim _
theorem wd_ne {s : Bs} (ht : Trm s) (h : s ≠ []) : wd s ≠ [] := by
  cases s with
  | nil => exact absurd rfl h
  | cons c r =>
    have : (c != 32) = true := by unfold Trm at ht; simpa using ht
    unfold wd
    rw [List.takeWhile_cons, this]
    simp
theorem wd_nil : wd [] = [] := rfl
theorem wd_len (s : Bs) : (wd s).length ≤ s.length := (List.takeWhile_sublist _).length_le
theorem aft_len (s : Bs) : (aft s).length ≤ s.length := by
  by_cases h : s = []
  · subst h; simp [aft, trimL]
  · exact Nat.le_of_lt (aft_lt h)
/-- The lines of a text. -/
def lns : Bs → List Bs
  | [] => [[]]
  | c :: r => if c = 10 then [] :: lns r else match lns r with
    | x :: xs => (c :: x) :: xs
    | [] => [[c]]
theorem lns_ne : ∀ l : Bs, lns l ≠ []
  | [] => by simp [lns]
  | c :: r => by
    unfold lns
    split
    · simp
    · split <;> simp
theorem lns_cut : ∀ l : Bs, lns l = if 10 ∈ l then l.takeWhile (fun b => b != 10) :: lns (l.dropWhile (fun b => b != 10)).tail else [l]
  | [] => by simp [lns]
  | c :: r => by
    have ih := lns_cut r
    conv => lhs; unfold lns
    by_cases h : c = 10
    · subst h
      simp
    · have h2 : (c != 10) = true := by simpa using h
      rw [if_neg h, ih]
      have h3 : ¬ (10 : UInt8) = c := fun e => h e.symm
      by_cases h4 : (10 : UInt8) ∈ r
      · rw [if_pos h4, if_pos (by simp [h4]), List.takeWhile_cons, List.dropWhile_cons, h2]
        simp
      · rw [if_neg h4, if_neg (by simp [h3, h4])]
theorem lns_len : ∀ l : Bs, (lns l).length ≤ l.length + 1
  | [] => by simp [lns]
  | c :: r => by
    have ih := lns_len r
    have hne := lns_ne r
    unfold lns
    split
    · simp; omega
    · cases h : lns r with
      | nil => exact absurd h hne
      | cons x xs => rw [h] at ih; simp at ih ⊢; omega
def semi (l : Bs) : Bs := l.takeWhile (fun b => b != 59)
/-- What is left of a line, from its first word on. -/
def lineT (l : Bs) : Bs := trimL (semi l)
def rowF (l : Bs) : List Bs := wordsF (lineT l)
/-- The lines that are left, from first words on. -/
def linesM (left : Bs) (more : Bool) : List Bs := if more = true then (lns left).map lineT else []

/-! ### A statement's line -/
def wEnd : Bs := [101, 110, 100]
def wRename : Bs := [114, 101, 110, 97, 109, 101]
def wDrop : Bs := [100, 114, 111, 112]
def wAdd : Bs := [97, 100, 100]
def wWiden : Bs := [119, 105, 100, 101, 110]
def wEach : Bs := [101, 97, 99, 104]
def wShare : Bs := [115, 104, 97, 114, 101]
def wSort : Bs := [115, 111, 114, 116]
def wNest : Bs := [110, 101, 115, 116]
def wLift : Bs := [108, 105, 102, 116]
def opW : List Bs := [wRename, wDrop, wAdd, wWiden, wEach, wShare, wSort, wNest, wLift]
def opNm (k : Nat) : Bs := match k with | 0 => [] | k + 1 => opW.getD k []
def opF (w : Bs) : Nat := if w = wRename then 1 else if w = wDrop then 2 else if w = wAdd then 3 else if w = wWiden then 4 else if w = wEach then 5
  else if w = wShare then 6 else if w = wSort then 7 else if w = wNest then 8 else if w = wLift then 9 else 0
/-- The number that a word is. -/
def numW (w : Bs) : Option Nat := if w.length ≤ 10 ∧ w ≠ [] ∧ w.all isDig = true ∧ valD w ≤ 4294967295 then some (valD w) else none
/-- What the words of a line must be, and the statement that they tell so far. -/
inductive Mu where | nm | dst | ty | num
def muF (op : Nat) : List Mu := match op with
  | 1 => [.nm, .dst] | 6 => [.nm, .dst] | 3 => [.nm, .ty, .num] | 4 => [.nm, .num] | _ => [.nm]
def leastF (op : Nat) : Nat := match op with | 6 => 2 | 7 => 1 | 8 => 1 | _ => 0
def namesR (op : Nat) (ws : List Bs) : Bool := if ws.length < leastF op then false else if leastF op = 0 then decide (ws = []) else ws.all nameB
/-- The statement of a line's words, from the second on. -/
def readR (op : Nat) (ws : List Bs) : Option Sm :=
  if op = 1 ∨ op = 6 then match ws with
    | a :: b :: r => if nameB a = true ∧ nameB b = true ∧ namesR op r = true then some (.mk op 0 a b r ty0 []) else none
    | _ => none
  else if op = 3 then match ws with
    | a :: b :: c :: r => if nameB a = true ∧ r = [] then match parseF b, numW c with
      | some t, some n => some (.mk op n a [] [] t [])
      | _, _ => none else none
    | _ => none
  else if op = 4 then match ws with
    | a :: c :: r => if nameB a = true ∧ r = [] then match numW c with
      | some n => some (.mk op n a [] [] ty0 [])
      | none => none else none
    | _ => none
  else match ws with
    | a :: r => if nameB a = true ∧ namesR op r = true then some (.mk op 0 a [] r ty0 []) else none
    | _ => none
def readS (ws : List Bs) : Option Sm := match ws with
  | [] => none
  | w :: r => if opF w = 0 then none else readR (opF w) r
def Sm.withBody (s : Sm) (l : List Sm) : Sm := .mk s.op s.num s.nm s.dst s.names s.ty l

/-! ### The statements of lines -/
inductive Rs where
  | bad (line : Nat)
  | ok (l : List Sm) (rest : List Bs) (line cnt : Nat)
def Rs.cons (s : Sm) : Rs → Rs
  | .bad k => .bad k
  | .ok l r a b => .ok (s :: l) r a b
/-- The statements of lines (from their first words on), which stand in so many each, behind so many lines and statements. -/
def blk : Nat → List Bs → Nat → Nat → Nat → Rs
  | 0, _, _, _, _ => .bad 0
  | f + 1, rows, inside, line, cnt => match rows with
    | [] => if inside = 0 then .ok [] [] line cnt else .bad line
    | x :: rs => if x = [] then blk f rs inside (line + 1) cnt
      else if wordsF x = [wEnd] then (if 0 < inside then .ok [] rs (line + 1) cnt else .bad (line + 1))
      else match readS (wordsF x) with
        | none => .bad (line + 1)
        | some s => if 60 < cnt + 1 then .bad (line + 1)
          else if s.op = 5 then
            if inside = 4 then .bad (line + 1)
            else match blk f rs (inside + 1) (line + 1) (cnt + 1) with
              | .bad k => .bad k
              | .ok B rs' line' cnt' => (blk f rs' inside line' cnt').cons (s.withBody B)
          else (blk f rs inside (line + 1) (cnt + 1)).cons s
def parseR (text : Bs) : List Sm × Nat := match blk ((lns text).length + 1) ((lns text).map lineT) 0 0 0 with
  | .bad k => ([], k)
  | .ok l _ _ _ => (l, 0)
/-- What is left is less. -/
theorem blk_rest : ∀ (f : Nat) (rows : List Bs) (i line cnt : Nat) (l : List Sm) (rest : List Bs) (a b : Nat), blk f rows i line cnt = .ok l rest a b → rest.length ≤ rows.length ∧ (0 < i → rest.length < rows.length) ∧ a + rest.length = line + rows.length
  | 0, _, _, _, _, _, _, _, _, h => by simp [blk] at h
  | f + 1, rows, i, line, cnt, l, rest, a, b, h => by
    unfold blk at h
    cases rows with
    | nil =>
      simp only at h
      split at h
      · cases h; simp; omega
      · cases h
    | cons x rs =>
      simp only at h
      split at h
      · have := blk_rest f _ _ _ _ _ _ _ _ h
        simp only [List.length_cons]; omega
      split at h
      · split at h
        · cases h; simp only [List.length_cons]; omega
        · cases h
      split at h
      · cases h
      rename_i s hs
      split at h
      · cases h
      split at h
      · split at h
        · cases h
        split at h
        · cases h
        rename_i B rs' line' cnt' hB
        have h1 := blk_rest f _ _ _ _ _ _ _ _ hB
        generalize hR : blk f rs' i line' cnt' = R at h
        cases R with
        | bad k => simp [Rs.cons] at h
        | ok l2 r2 a2 b2 =>
          simp only [Rs.cons] at h
          cases h
          have h2 := blk_rest f _ _ _ _ _ _ _ _ hR
          simp only [List.length_cons]; omega
      · generalize hR : blk f rs i (line + 1) (cnt + 1) = R at h
        cases R with
        | bad k => simp [Rs.cons] at h
        | ok l2 r2 a2 b2 =>
          simp only [Rs.cons] at h
          cases h
          have h2 := blk_rest f _ _ _ _ _ _ _ _ hR
          simp only [List.length_cons]; omega
theorem blk_more : ∀ (f g : Nat) (rows : List Bs) (i line cnt : Nat), rows.length < f → rows.length < g → blk f rows i line cnt = blk g rows i line cnt
  | 0, _, _, _, _, _, h, _ => by omega
  | _ + 1, 0, _, _, _, _, _, h => by omega
  | f + 1, g + 1, rows, i, line, cnt, h1, h2 => by
    unfold blk
    cases rows with
    | nil => rfl
    | cons x rs =>
      simp only [List.length_cons] at h1 h2
      simp only
      rw [blk_more f g rs i (line + 1) cnt (by omega) (by omega), blk_more f g rs i (line + 1) (cnt + 1) (by omega) (by omega), blk_more f g rs (i + 1) (line + 1) (cnt + 1) (by omega) (by omega)]
      cases hB : blk g rs (i + 1) (line + 1) (cnt + 1) with
      | bad k => rfl
      | ok B rs' line' cnt' =>
        have := (blk_rest _ _ _ _ _ _ _ _ _ hB).1
        simp only
        rw [blk_more f g rs' i line' cnt' (by omega) (by omega)]
end Go.Proofs.YtjppcfjjpkniaaaGreatDoor
namespace Go.Proofs.YtjppcfjjpkniaaaGreatDoor

theorem blk_cons (f : Nat) (x : Bs) (rs : List Bs) (inside line cnt : Nat) : blk (f + 1) (x :: rs) inside line cnt = (if x = [] then blk f rs inside (line + 1) cnt
      else if wordsF x = [wEnd] then (if 0 < inside then .ok [] rs (line + 1) cnt else .bad (line + 1))
      else match readS (wordsF x) with
        | none => .bad (line + 1)
        | some s => if 60 < cnt + 1 then .bad (line + 1)
          else if s.op = 5 then
            if inside = 4 then .bad (line + 1)
            else match blk f rs (inside + 1) (line + 1) (cnt + 1) with
              | .bad k => .bad k
              | .ok B rs' line' cnt' => (blk f rs' inside line' cnt').cons (s.withBody B)
          else (blk f rs inside (line + 1) (cnt + 1)).cons s) := rfl
theorem blk_bad : ∀ (f : Nat) (rows : List Bs) (i line cnt k : Nat), rows.length < f → (0 < i → 0 < line) → blk f rows i line cnt = .bad k → 0 < k
  | 0, _, _, _, _, _, h, _, _ => by omega
  | f + 1, rows, i, line, cnt, k, hf, hi, h => by
    unfold blk at h
    cases rows with
    | nil =>
      simp only at h
      split at h
      · cases h
      · cases h; exact hi (by omega)
    | cons x rs =>
      simp only [List.length_cons] at hf
      simp only at h
      split at h
      · exact blk_bad f _ _ _ _ _ (by omega) (by omega) h
      split at h
      · split at h
        · cases h
        · cases h; omega
      split at h
      · cases h; omega
      split at h
      · cases h; omega
      split at h
      · split at h
        · cases h; omega
        split at h
        · rename_i k2 hB
          cases h
          exact blk_bad f _ _ _ _ _ (by omega) (by omega) hB
        rename_i B rs' line' cnt' hB
        have h1 := blk_rest f _ _ _ _ _ _ _ _ hB
        generalize hR : blk f rs' i line' cnt' = R at h
        cases R with
        | bad k2 =>
          simp only [Rs.cons] at h
          cases h
          exact blk_bad f _ _ _ _ _ (by omega) (by omega) hR
        | ok l2 r2 a2 b2 => simp [Rs.cons] at h
      · generalize hR : blk f rs i (line + 1) (cnt + 1) = R at h
        cases R with
        | bad k2 =>
          simp only [Rs.cons] at h
          cases h
          exact blk_bad f _ _ _ _ _ (by omega) (by omega) hR
        | ok l2 r2 a2 b2 => simp [Rs.cons] at h
theorem withBody_count (s : Sm) (l : List Sm) : (s.withBody l).count = 1 + cntL l := by simp [Sm.withBody, Sm.count]
theorem readR_body {op : Nat} {ws : List Bs} {s : Sm} (h : readR op ws = some s) : s.body = [] ∧ s.op = op := by
  unfold readR at h
  repeat' split at h
  all_goals first | (cases h; exact ⟨rfl, rfl⟩) | cases h
theorem readS_body {ws : List Bs} {s : Sm} (h : readS ws = some s) : s.body = [] := by
  unfold readS at h
  split at h
  · cases h
  · split at h
    · cases h
    · exact (readR_body h).1
theorem count_nobody {s : Sm} (h : s.body = []) : s.count = 1 := by
  cases s; simp only [Sm.body] at h; subst h; simp [Sm.count, cntL]
/-- How many statements were read. -/
theorem blk_cnt : ∀ (f : Nat) (rows : List Bs) (i line cnt : Nat) (l : List Sm) (rest : List Bs) (a b : Nat), blk f rows i line cnt = .ok l rest a b → b = cnt + cntL l ∧ (i = 0 → rest = []) ∧ (cnt ≤ 60 → b ≤ 60)
  | 0, _, _, _, _, _, _, _, _, h => by simp [blk] at h
  | f + 1, rows, i, line, cnt, l, rest, a, b, h => by
    unfold blk at h
    cases rows with
    | nil =>
      simp only at h
      split at h
      · cases h; simp [cntL]
      · cases h
    | cons x rs =>
      simp only at h
      split at h
      · exact blk_cnt f _ _ _ _ _ _ _ _ h
      split at h
      · split at h
        · cases h; exact ⟨by simp [cntL], fun e => by omega, fun h => h⟩
        · cases h
      split at h
      · cases h
      rename_i s hs
      have hb := readS_body hs
      split at h
      · cases h
      split at h
      · split at h
        · cases h
        split at h
        · cases h
        rename_i B rs' line' cnt' hB
        have h1 := blk_cnt f _ _ _ _ _ _ _ _ hB
        generalize hR : blk f rs' i line' cnt' = R at h
        cases R with
        | bad k => simp [Rs.cons] at h
        | ok l2 r2 a2 b2 =>
          simp only [Rs.cons] at h
          cases h
          have h2 := blk_cnt f _ _ _ _ _ _ _ _ hR
          refine ⟨?_, h2.2.1, fun h => h2.2.2 (h1.2.2 (by omega))⟩
          rw [cntL, withBody_count]; omega
      · generalize hR : blk f rs i (line + 1) (cnt + 1) = R at h
        cases R with
        | bad k => simp [Rs.cons] at h
        | ok l2 r2 a2 b2 =>
          simp only [Rs.cons] at h
          cases h
          have h2 := blk_cnt f _ _ _ _ _ _ _ _ hR
          refine ⟨?_, h2.2.1, fun h => h2.2.2 (by omega)⟩
          rw [cntL, count_nobody hb]; omega
def Rs.pre (m : List Sm) : Rs → Rs
  | .bad k => .bad k
  | .ok l r a b => .ok (m ++ l) r a b
theorem pre_nil (r : Rs) : r.pre [] = r := by cases r <;> rfl
theorem pre_cons (s : Sm) (m : List Sm) (r : Rs) : r.pre (s :: m) = (r.pre m).cons s := by cases r <;> rfl
/-- Lines more behind. -/
theorem blk_app : ∀ (f : Nat) (rows more : List Bs) (i line cnt : Nat) (l : List Sm) (rest : List Bs) (a b : Nat), rows.length < f → blk f rows i line cnt = .ok l rest a b →
    (0 < i → blk (f + more.length) (rows ++ more) i line cnt = .ok l (rest ++ more) a b) ∧ (i = 0 → blk (f + more.length) (rows ++ more) i line cnt = (blk (1 + more.length) more 0 a b).pre l)
  | 0, _, _, _, _, _, _, _, _, _, hf, _ => by omega
  | f + 1, rows, more, i, line, cnt, l, rest, a, b, hf, h => by
    cases rows with
    | nil =>
      unfold blk at h
      simp only at h
      split at h
      · rename_i hi
        cases h
        refine ⟨fun h => by omega, fun _ => ?_⟩
        rw [List.nil_append, pre_nil, hi]
        exact blk_more _ _ _ _ _ _ (by omega) (by omega)
      · cases h
    | cons x rs =>
      simp only [List.length_cons] at hf
      rw [show f + 1 + more.length = (f + more.length) + 1 by omega, List.cons_append]
      rw [blk_cons] at h
      rw [blk_cons]
      split at h
      · rename_i hx
        rw [if_pos hx]
        exact blk_app f _ more _ _ _ _ _ _ _ (by omega) h
      rename_i hx
      rw [if_neg hx]
      split at h
      · rename_i hw
        rw [if_pos hw]
        split at h
        · rename_i hi
          cases h
          rw [if_pos hi]
          exact ⟨fun _ => rfl, fun e => by omega⟩
        · cases h
      rename_i hw
      rw [if_neg hw]
      split at h
      · cases h
      rename_i s hs
      try rw [hs]
      try simp only
      split at h
      · cases h
      rename_i hc
      rw [if_neg hc]
      split at h
      · rename_i h5
        rw [if_pos h5]
        split at h
        · cases h
        rename_i h4
        rw [if_neg h4]
        split at h
        · cases h
        rename_i B rs' line' cnt' hB
        have h1 := blk_rest f _ _ _ _ _ _ _ _ hB
        rw [(blk_app f _ more _ _ _ _ _ _ _ (by omega) hB).1 (by omega)]
        simp only
        generalize hR : blk f rs' i line' cnt' = R at h
        cases R with
        | bad k => simp [Rs.cons] at h
        | ok l2 r2 a2 b2 =>
          simp only [Rs.cons] at h
          cases h
          obtain ⟨i1, i2⟩ := blk_app f _ more _ _ _ _ _ _ _ (by omega) hR
          exact ⟨fun hi => by rw [i1 hi]; rfl, fun hi => by rw [i2 hi, pre_cons]⟩
      · rename_i h5
        rw [if_neg h5]
        generalize hR : blk f rs i (line + 1) (cnt + 1) = R at h
        cases R with
        | bad k => simp [Rs.cons] at h
        | ok l2 r2 a2 b2 =>
          simp only [Rs.cons] at h
          cases h
          obtain ⟨i1, i2⟩ := blk_app f _ more _ _ _ _ _ _ _ (by omega) hR
          exact ⟨fun hi => by rw [i1 hi]; rfl, fun hi => by rw [i2 hi, pre_cons]⟩
/-- The same lines behind other ones. -/
theorem blk_shift : ∀ (f : Nat) (rows : List Bs) (i line cnt line2 cnt2 : Nat) (l : List Sm) (rest : List Bs) (a b : Nat), rows.length < f → blk f rows i line cnt = .ok l rest a b →
    (cnt2 + cntL l ≤ 60 → blk f rows i line2 cnt2 = .ok l rest (line2 + (a - line)) (cnt2 + cntL l)) ∧ (60 < cnt2 + cntL l → cnt2 ≤ 60 → ∃ k, blk f rows i line2 cnt2 = .bad (k + 1))
  | 0, _, _, _, _, _, _, _, _, _, _, hf, _ => by omega
  | f + 1, rows, i, line, cnt, line2, cnt2, l, rest, a, b, hf, h => by
    cases rows with
    | nil =>
      unfold blk at h ⊢
      simp only at h ⊢
      split at h
      · rename_i hi
        cases h
        rw [if_pos hi]
        exact ⟨fun _ => by simp [cntL], fun h1 h2 => by simp [cntL] at h1; omega⟩
      · cases h
    | cons x rs =>
      simp only [List.length_cons] at hf
      unfold blk at h ⊢
      simp only at h ⊢
      split at h
      · rename_i hx
        rw [if_pos hx]
        have hr := blk_rest f _ _ _ _ _ _ _ _ h
        obtain ⟨i1, i2⟩ := blk_shift f _ _ _ _ (line2 + 1) cnt2 _ _ _ _ (by omega) h
        exact ⟨fun hc => by rw [i1 hc]; congr 1; omega, i2⟩
      rename_i hx
      rw [if_neg hx]
      split at h
      · rename_i hw
        rw [if_pos hw]
        split at h
        · rename_i hi
          cases h
          rw [if_pos hi]
          exact ⟨fun _ => by simp [cntL], fun h1 h2 => by simp [cntL] at h1; omega⟩
        · cases h
      rename_i hw
      rw [if_neg hw]
      split at h
      · cases h
      rename_i s hs
      have hb := readS_body hs
      try rw [hs]
      try simp only
      split at h
      · cases h
      split at h
      · rename_i h5
        split at h
        · cases h
        rename_i h4
        split at h
        · cases h
        rename_i B rs' line' cnt' hB
        have h1 := blk_rest f _ _ _ _ _ _ _ _ hB
        generalize hR : blk f rs' i line' cnt' = R at h
        cases R with
        | bad k => simp [Rs.cons] at h
        | ok l2 r2 a2 b2 =>
          simp only [Rs.cons] at h
          cases h
          have h3 := blk_rest f _ _ _ _ _ _ _ _ hR
          obtain ⟨i1, i2⟩ := blk_shift f _ _ _ _ (line2 + 1) (cnt2 + 1) _ _ _ _ (by omega) hB
          obtain ⟨j1, j2⟩ := blk_shift f _ _ _ _ (line2 + 1 + (line' - (line + 1))) (cnt2 + 1 + cntL B) _ _ _ _ (by omega) hR
          rw [cntL, withBody_count]
          refine ⟨fun hc => ?_, fun hc hc2 => ?_⟩
          · rw [if_neg (by omega), if_pos h5, if_neg h4, i1 (by omega)]
            simp only
            rw [j1 (by omega)]
            simp only [Rs.cons]
            congr 1 <;> omega
          · by_cases h60 : 60 < cnt2 + 1
            · exact ⟨_, by rw [if_pos h60]⟩
            rw [if_neg h60, if_pos h5, if_neg h4]
            by_cases h61 : 60 < cnt2 + 1 + cntL B
            · obtain ⟨k, hk⟩ := i2 h61 (by omega)
              exact ⟨k, by rw [hk]⟩
            · rw [i1 (by omega)]
              obtain ⟨k, hk⟩ := j2 (by omega) (by omega)
              exact ⟨k, by simp only; rw [hk]; rfl⟩
      · rename_i h5
        generalize hR : blk f rs i (line + 1) (cnt + 1) = R at h
        cases R with
        | bad k => simp [Rs.cons] at h
        | ok l2 r2 a2 b2 =>
          simp only [Rs.cons] at h
          cases h
          have h3 := blk_rest f _ _ _ _ _ _ _ _ hR
          obtain ⟨j1, j2⟩ := blk_shift f _ _ _ _ (line2 + 1) (cnt2 + 1) _ _ _ _ (by omega) hR
          rw [cntL, count_nobody hb]
          refine ⟨fun hc => ?_, fun hc hc2 => ?_⟩
          · rw [if_neg (by omega), if_neg h5, j1 (by omega)]
            simp only [Rs.cons]
            congr 1 <;> omega
          · by_cases h60 : 60 < cnt2 + 1
            · exact ⟨_, by rw [if_pos h60]⟩
            rw [if_neg h60, if_neg h5]
            obtain ⟨k, hk⟩ := j2 (by omega) (by omega)
            exact ⟨k, by rw [hk]; rfl⟩
theorem lns_cons (c : UInt8) (r : Bs) : lns (c :: r) = if c = 10 then [] :: lns r else match lns r with
    | x :: xs => (c :: x) :: xs
    | [] => [[c]] := rfl
theorem lns_app : ∀ a b : Bs, lns (a ++ 10 :: b) = lns a ++ lns b
  | [], b => by rw [List.nil_append, lns_cons, if_pos rfl]; rfl
  | c :: a, b => by
    rw [List.cons_append, lns_cons, lns_cons, lns_app a b]
    by_cases hc : c = 10
    · rw [if_pos hc, if_pos hc, List.cons_append]
    · rw [if_neg hc, if_neg hc]
      have := lns_ne a
      cases h : lns a with
      | nil => exact absurd h this
      | cons x xs => simp
theorem lns_one {l : Bs} (h : 10 ∉ l) : lns l = [l] := by rw [lns_cut, if_neg h]
theorem parse_ok0 {t : Bs} {l : List Sm} (h : parseR t = (l, 0)) : ∃ a b, blk ((lns t).length + 1) ((lns t).map lineT) 0 0 0 = .ok l [] a b ∧ b = cntL l ∧ b ≤ 60 := by
  unfold parseR at h
  split at h
  · rename_i k hk
    have := blk_bad _ _ _ _ _ _ (by simp) (by omega) hk
    simp only [Prod.mk.injEq] at h
    omega
  · rename_i l2 r a b hk
    simp only [Prod.mk.injEq, and_true] at h
    subst h
    obtain ⟨h1, h2, h3⟩ := blk_cnt _ _ _ _ _ _ _ _ _ hk
    rw [h2 rfl] at hk
    exact ⟨a, b, hk, by omega, h3 (by omega)⟩
theorem parseR_bad {t : Bs} {l : List Sm} {n : Nat} (h : parseR t = (l, n)) (hn : n ≠ 0) : l = [] := by
  unfold parseR at h
  split at h
  · exact (Prod.mk.inj h).1.symm
  · exact absurd (Prod.mk.inj h).2.symm hn
theorem joins_eq {a b : Bs} {x y : List Sm} (hx : parseR a = (x, 0)) (hy : parseR b = (y, 0)) :
    (cntL x + cntL y ≤ 60 → parseR (a ++ 10 :: b) = (x ++ y, 0)) ∧ (60 < cntL x + cntL y → ∃ k, parseR (a ++ 10 :: b) = ([], k + 1)) := by
  obtain ⟨a1, b1, h1, h2, h3⟩ := parse_ok0 hx
  obtain ⟨a2, b2, h4, h5, h6⟩ := parse_ok0 hy
  have e1 : ∀ r, blk ((lns (a ++ 10 :: b)).length + 1) ((lns (a ++ 10 :: b)).map lineT) 0 0 0 = r → (blk (1 + ((lns b).map lineT).length) ((lns b).map lineT) 0 a1 b1).pre x = r := by
    rintro _ rfl
    rw [lns_app, List.map_append, List.length_append, ← (blk_app _ _ ((lns b).map lineT) _ _ _ _ _ _ _ (by simp) h1).2 rfl]
    exact blk_more _ _ _ _ _ _ (by simp) (by simp)
  have h4' : blk (1 + ((lns b).map lineT).length) ((lns b).map lineT) 0 0 0 = .ok y [] a2 b2 := by rw [← h4]; exact blk_more _ _ _ _ _ _ (by simp <;> omega) (by simp)
  obtain ⟨s1, s2⟩ := blk_shift _ _ _ _ _ a1 b1 _ _ _ _ (by simp <;> omega) h4'
  refine ⟨fun hc => ?_, fun hc => ?_⟩
  · unfold parseR
    rw [← e1 _ rfl, s1 (by omega)]
    rfl
  · obtain ⟨k, hk⟩ := s2 (by omega) (by omega)
    refine ⟨k, ?_⟩
    unfold parseR
    rw [← e1 _ rfl, hk]
    rfl

/-! ### Remarks and empty lines -/
/-- Lines that tell the same words. -/
def Alk (x y : Bs) : Prop := (x = [] ↔ y = []) ∧ wordsF x = wordsF y
inductive Lay : List Bs → List Bs → Prop where
  | nil : Lay [] []
  | cons {x y : Bs} {a b : List Bs} (h : Alk x y) (t : Lay a b) : Lay (x :: a) (y :: b)
  | skip {a b : List Bs} (t : Lay a b) : Lay a ([] :: b)
def RsL : Rs → Rs → Prop
  | .bad _, .bad _ => True
  | .ok l r _ c, .ok l' r' _ c' => l = l' ∧ Lay r r' ∧ c = c'
  | _, _ => False
theorem RsL.cons (s : Sm) {r r' : Rs} (h : RsL r r') : RsL (r.cons s) (r'.cons s) := by
  cases r <;> cases r' <;> simp_all [RsL, Rs.cons]
theorem lay_len {a b : List Bs} (h : Lay a b) : a.length ≤ b.length := by induction h <;> simp <;> omega
theorem blk_lay : ∀ (n : Nat) (a b : List Bs), b.length ≤ n → Lay a b → ∀ (f g i line line' cnt : Nat), a.length < f → b.length < g → RsL (blk f a i line cnt) (blk g b i line' cnt) := by
  intro n
  induction n with
  | zero =>
    intro a b hn hl f g i line line' cnt hf hg
    cases hl with
    | nil =>
      obtain ⟨f, rfl⟩ : ∃ f', f = f' + 1 := ⟨f - 1, by omega⟩
      obtain ⟨g, rfl⟩ : ∃ g', g = g' + 1 := ⟨g - 1, by omega⟩
      unfold blk
      simp only
      split
      · exact ⟨rfl, .nil, rfl⟩
      · trivial
    | cons => simp at hn
    | skip => simp at hn
  | succ n ih =>
    intro a b hn hl f g i line line' cnt hf hg
    obtain ⟨g, rfl⟩ : ∃ g', g = g' + 1 := ⟨g - 1, by omega⟩
    cases hl with
    | nil =>
      obtain ⟨f, rfl⟩ : ∃ f', f = f' + 1 := ⟨f - 1, by omega⟩
      unfold blk
      simp only
      split
      · exact ⟨rfl, .nil, rfl⟩
      · trivial
    | skip t =>
      simp only [List.length_cons] at hn hg
      conv => enter [2]; unfold blk
      simp only [if_true]
      exact ih _ _ (by omega) t _ _ _ _ _ _ hf (by omega)
    | @cons x y a b hxy t =>
      obtain ⟨f, rfl⟩ : ∃ f', f = f' + 1 := ⟨f - 1, by omega⟩
      simp only [List.length_cons] at hn hg hf
      unfold blk
      simp only
      by_cases hx : x = []
      · rw [if_pos hx, if_pos (hxy.1.1 hx)]
        exact ih _ _ (by omega) t _ _ _ _ _ _ (by omega) (by omega)
      rw [if_neg hx, if_neg (fun e => hx (hxy.1.2 e)), ← hxy.2]
      split
      · split
        · exact ⟨rfl, t, rfl⟩
        · trivial
      split
      · trivial
      rename_i s hs
      split
      · trivial
      split
      · split
        · trivial
        have h1 := ih _ _ (by omega) t f g (i + 1) (line + 1) (line' + 1) (cnt + 1) (by omega) (by omega)
        generalize hA : blk f a (i + 1) (line + 1) (cnt + 1) = A at h1
        generalize hB : blk g b (i + 1) (line' + 1) (cnt + 1) = B at h1
        cases A with
        | bad k => cases B with
          | bad k' => trivial
          | ok => exact absurd h1 id
        | ok l r a1 c => cases B with
          | bad k' => exact absurd h1 id
          | ok l' r' a1' c' =>
            obtain ⟨rfl, hr, rfl⟩ := h1
            have q1 := blk_rest _ _ _ _ _ _ _ _ _ hA
            have q2 := blk_rest _ _ _ _ _ _ _ _ _ hB
            exact RsL.cons _ (ih _ _ (by omega) hr _ _ _ _ _ _ (by omega) (by omega))
      · exact RsL.cons _ (ih _ _ (by omega) t _ _ _ _ _ _ (by omega) (by omega))

theorem Alk.refl (x : Bs) : Alk x x := ⟨Iff.rfl, rfl⟩
theorem trim_sp : ∀ s : Bs, trimL (s ++ [32]) = if trimL s = [] then [] else trimL s ++ [32]
  | [] => by simp [trimL]
  | c :: r => by
    have ih := trim_sp r
    unfold trimL at ih ⊢
    rw [List.cons_append, List.dropWhile_cons, List.dropWhile_cons]
    by_cases h : (c == 32) = true
    · rw [if_pos h, if_pos h, ih]
    · rw [if_neg h, if_neg h]; simp
theorem words_sp : ∀ (n : Nat) (s : Bs), s.length ≤ n → s ≠ [] → wordsF (s ++ [32]) = wordsF s
  | 0, s, hn, h => absurd (List.eq_nil_of_length_eq_zero (by omega)) h
  | n + 1, s, hn, h => by
    rw [wordsF_cons (by simp), wordsF_cons h]
    have hlt := aft_lt h
    have dA : ∀ s : Bs, ((s ++ [32]).takeWhile (fun b => b != 32) = s.takeWhile (fun b => b != 32)) ∧ ((s ++ [32]).dropWhile (fun b => b != 32) = s.dropWhile (fun b => b != 32) ++ [32]) := by
      intro s
      induction s with
      | nil => exact ⟨rfl, rfl⟩
      | cons c r ih =>
        rw [List.cons_append, List.takeWhile_cons, List.takeWhile_cons, List.dropWhile_cons, List.dropWhile_cons]
        split
        · exact ⟨by rw [ih.1], ih.2⟩
        · exact ⟨rfl, rfl⟩
    have e1 : wd (s ++ [32]) = wd s := (dA s).1
    have e2 : aft (s ++ [32]) = if aft s = [] then [] else aft s ++ [32] := by
      unfold aft
      rw [(dA s).2]
      cases hd : s.dropWhile (fun b => b != 32) with
      | nil => simp [trimL]
      | cons c r => rw [List.cons_append, List.tail_cons, List.tail_cons]; exact trim_sp r
    rw [e1, e2]
    split
    · rename_i h0; rw [h0]
    · rename_i h0; rw [words_sp n (aft s) (by omega) h0]
theorem semi_app (l n : Bs) : semi (l ++ 59 :: n) = semi l := by
  unfold semi
  induction l with
  | nil => simp
  | cons c r ih =>
    rw [List.cons_append, List.takeWhile_cons, List.takeWhile_cons, ih]
theorem semi_sp (l n : Bs) : semi (l ++ 32 :: 59 :: n) = if 59 ∈ l then semi l else l ++ [32] := by
  unfold semi
  induction l with
  | nil => simp
  | cons c r ih =>
    rw [List.cons_append, List.takeWhile_cons, List.takeWhile_cons, ih]
    by_cases h : c = 59
    · subst h; simp
    · have h2 : (c != 59) = true := by simpa using h
      rw [h2, if_pos rfl, if_pos rfl]
      have h3 : ¬ (59 : UInt8) = c := fun e => h e.symm
      by_cases h4 : (59 : UInt8) ∈ r
      · rw [if_pos h4, if_pos (by simp [h4])]
      · rw [if_neg h4, if_neg (by simp [h3, h4])]; rfl
theorem semi_all {l : Bs} (h : 59 ∉ l) : semi l = l := by
  unfold semi
  induction l with
  | nil => rfl
  | cons c r ih =>
    simp only [List.mem_cons, not_or] at h
    have h2 : (c != 59) = true := by simpa using fun e : c = 59 => h.1 e.symm
    rw [List.takeWhile_cons, h2, if_pos rfl, ih h.2]
theorem alk_semi (l n : Bs) : Alk (lineT l) (lineT (l ++ 59 :: n)) := by
  unfold lineT; rw [semi_app]; exact Alk.refl _
theorem alk_sp (l n : Bs) : Alk (lineT l) (lineT (l ++ 32 :: 59 :: n)) := by
  unfold lineT
  rw [semi_sp]
  by_cases h : (59 : UInt8) ∈ l
  · rw [if_pos h]; exact Alk.refl _
  · rw [if_neg h, semi_all h, trim_sp]
    by_cases h0 : trimL l = []
    · rw [if_pos h0, h0]; exact Alk.refl _
    · rw [if_neg h0]
      exact ⟨⟨fun e => absurd e h0, fun e => by simp at e⟩, (words_sp _ _ (Nat.le_refl _) h0).symm⟩
/-- A text with remarks and empty lines. -/
def trC (c : UInt8) : Bs := if c = 10 then [32, 59, 120, 32, 101, 110, 100, 10, 32, 59, 10] else [c]
def trN (t : Bs) : Bs := t.flatMap trC
theorem trN_app (a b : Bs) : trN (a ++ b) = trN a ++ trN b := by simp [trN]
theorem trN_id {l : Bs} (h : 10 ∉ l) : trN l = l := by
  unfold trN
  induction l with
  | nil => rfl
  | cons c r ih =>
    simp only [List.mem_cons, not_or] at h
    rw [List.flatMap_cons, ih h.2, trC, if_neg (fun e => h.1 e.symm)]; rfl
theorem split_lf {t : Bs} (h : 10 ∈ t) : t = t.takeWhile (fun b => b != 10) ++ 10 :: (t.dropWhile (fun b => b != 10)).tail ∧ 10 ∉ t.takeWhile (fun b => b != 10) := by
  induction t with
  | nil => simp at h
  | cons c r ih =>
    by_cases hc : c = 10
    · subst hc; simp
    · have h2 : (c != 10) = true := by simpa using hc
      have h3 : ¬ (10 : UInt8) = c := fun e => hc e.symm
      simp only [List.mem_cons, h3, false_or] at h
      obtain ⟨i1, i2⟩ := ih h
      rw [List.takeWhile_cons, List.dropWhile_cons, h2, if_pos rfl, if_pos rfl, List.cons_append, ← i1]
      exact ⟨rfl, by simp [h3, i2]⟩
theorem lay_notes (note : Bs) (hn : 10 ∉ note) : ∀ (n : Nat) (t : Bs), t.length ≤ n → Lay ((lns t).map lineT) ((lns (trN t ++ 59 :: note)).map lineT) := by
  have base : ∀ t : Bs, 10 ∉ t → Lay ((lns t).map lineT) ((lns (trN t ++ 59 :: note)).map lineT) := fun t ht => by
    rw [trN_id ht, lns_one ht, lns_one (by simp [ht, hn])]
    exact .cons (alk_semi _ _) .nil
  intro n
  induction n with
  | zero => intro t ht; exact base t (by rw [List.eq_nil_of_length_eq_zero (by omega : t.length = 0)]; simp)
  | succ n ih =>
    intro t ht
    by_cases h : (10 : UInt8) ∈ t
    · obtain ⟨h1, h2⟩ := split_lf h
      generalize t.takeWhile (fun b => b != 10) = l at h1 h2
      generalize (t.dropWhile (fun b => b != 10)).tail = r at h1
      subst h1
      have hr : r.length ≤ n := by simp at ht; omega
      have e : trN (l ++ 10 :: r) ++ 59 :: note = (l ++ 32 :: 59 :: [120, 32, 101, 110, 100]) ++ 10 :: ([32, 59] ++ 10 :: (trN r ++ 59 :: note)) := by
        rw [trN_app, trN_id h2]
        simp [trN, trC]
      rw [e, lns_app, lns_app, lns_app, lns_one h2, lns_one (l := l ++ 32 :: 59 :: [120, 32, 101, 110, 100]) (by simp [h2]), lns_one (l := [32, 59]) (by decide)]
      exact .cons (alk_sp _ _) (.skip (ih r hr))
    · exact base t h
theorem notes_eq (t note : Bs) (hn : 10 ∉ note) : (parseR (trN t ++ 59 :: note)).1 = (parseR t).1 ∧ ((parseR (trN t ++ 59 :: note)).2 = 0 ↔ (parseR t).2 = 0) := by
  have h := blk_lay _ _ _ (Nat.le_refl _) (lay_notes note hn _ t (Nat.le_refl _)) ((lns t).length + 1) ((lns (trN t ++ 59 :: note)).length + 1) 0 0 0 0 (by simp) (by simp)
  unfold parseR
  generalize hA : blk ((lns t).length + 1) ((lns t).map lineT) 0 0 0 = A at h
  generalize hB : blk ((lns (trN t ++ 59 :: note)).length + 1) ((lns (trN t ++ 59 :: note)).map lineT) 0 0 0 = B at h
  cases A with
  | bad k => cases B with
    | bad k' =>
      have q1 := blk_bad _ _ _ _ _ _ (by simp) (by omega) hA
      have q2 := blk_bad _ _ _ _ _ _ (by simp) (by omega) hB
      simp only
      exact ⟨by trivial, by omega⟩
    | ok => exact absurd h id
  | ok l r a c => cases B with
    | bad k' => exact absurd h id
    | ok l' r' a' c' => exact ⟨h.1.symm, Iff.rfl⟩
end Go.Proofs.YtjppcfjjpkniaaaGreatDoor
