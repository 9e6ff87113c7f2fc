/- types.reader's list: its contract; no statement is proved in this text. -/
import Derived.Test.YtihbbgcpdgnhoaaGreatDoorNu
import Derived.Test.YtihbbgcpdgnhoaaGreatDoorOrd2
namespace Go.Proofs.YtihbbgcpdgnhoaaGreatDoor
open Go.ChangeShapes Go.WideShapes Go.ChangeAt Go.RowKit Go.Deep
attribute [local go_sem ↓] Go.wp_at_zero Go.wp_at_succ

abbrev zT : Obj := .cells #[i64 0, i64 0, .slice none 0 0, .slice none 0 0] 25
/-- What a reader's call leaves: whether a type was taken, the type, what is left. -/
def Rok (w : World) (q L : Nat) (res : Option (Ty × Bs)) (e : Ending) (w' : World) : Prop :=
  ∃ (k n : Int) (a1 : Option Addr) (n1 c1 : Nat) (a2 : Option Addr) (n2 c2 : Nat) (l' : Bs), e = .returned (.tuple #[tyV k n (.slice a1 n1 c1) (.slice a2 n2 c2), .bool res.isSome]) ∧ w'.heap[q]? = some (.cells #[str l'] 133) ∧ l'.length ≤ L ∧ Touch q w w' ∧
    (∀ T r, res = some (T, r) → l' = r ∧ k = T.kind ∧ n = T.num ∧ Rd w' (fun b => w.heap.size ≤ b) T (.slice a1 n1 c1) (.slice a2 n2 c2))
/-- What Cut asks of the world. -/
def Mx (w : World) (q : Nat) : Prop := q ≠ 1 ∧ ∃ m, w.cell? ⟨1, 0, none⟩ = some (i64 m)
theorem Mx.touch {w w' : World} {q : Nat} (h : Mx w q) (ht : Touch q w w') : Mx w' q := by
  obtain ⟨h1, m, h2⟩ := h
  refine ⟨h1, m, ?_⟩
  rw [ht.cell (p := ⟨1, 0, none⟩) (World.block_lt_of_cell? w _ h2) (fun e => h1 e.symm)]; exact h2
theorem load25 {W : World} {b : Nat} {k n : Int} {nv kv : Value} (h : W.heap[b]? = some (.cells #[i64 k, i64 n, nv, kv] 25)) : (loadVar 25 ⟨b, 0, none⟩).run Tryz.prog W = .ok (tyV k n nv kv) W := by
  refine run_loadVar_mid _ _ 0 25 [i64 k, i64 n, nv, kv] _ (fun j v hv => ?_) Tryz.underlying25 rfl (by kernel_rfl)
  rw [Nat.zero_add, cell_of_row _ _ _ _ 25 (0, 0) h]
  simpa using hv
theorem set4 {V : World} {b : Nat} {x0 x1 x2 x3 : Value} {t : TypeId} (h : V.heap[b]? = some (.cells #[x0, x1, x2, x3] t)) (a0 a1 a2 a3 : Value) : ((((V.setCell ⟨b, 0, none⟩ a0).setCell ⟨b, 1, none⟩ a1).setCell ⟨b, 2, none⟩ a2).setCell ⟨b, 3, none⟩ a3).heap[b]? = some (.cells #[a0, a1, a2, a3] t) := by
  have h1 := heap_setCell_same V b 0 _ t a0 h
  have h2 := heap_setCell_same _ b 1 _ t a1 h1
  have h3 := heap_setCell_same _ b 2 _ t a2 h2
  have h4 := heap_setCell_same _ b 3 _ t a3 h3
  simpa using h4
theorem set4_ne {V : World} {b k : Nat} {o : Obj} (h : V.heap[k]? = some o) (hk : k ≠ b) (a0 a1 a2 a3 : Value) : ((((V.setCell ⟨b, 0, none⟩ a0).setCell ⟨b, 1, none⟩ a1).setCell ⟨b, 2, none⟩ a2).setCell ⟨b, 3, none⟩ a3).heap[k]? = some o := by
  rw [Below.heap_setCell _ _ _ _ hk, Below.heap_setCell _ _ _ _ hk, Below.heap_setCell _ _ _ _ hk, Below.heap_setCell _ _ _ _ hk]; exact h
theorem Touch.set4 {q : Nat} {a w : World} (h : Touch q a w) {b : Nat} (hb : a.heap.size ≤ b) (a0 a1 a2 a3 : Value) : Touch q a ((((w.setCell ⟨b, 0, none⟩ a0).setCell ⟨b, 1, none⟩ a1).setCell ⟨b, 2, none⟩ a2).setCell ⟨b, 3, none⟩ a3) :=
  (((h.setNew (p := ⟨b, 0, none⟩) hb a0).setNew (p := ⟨b, 1, none⟩) hb a1).setNew (p := ⟨b, 2, none⟩) hb a2).setNew (p := ⟨b, 3, none⟩) hb a3
theorem set4_ne_hid {V : World} {b k : Nat} {o : Obj} (h : Hid (V.heap[k]? = some o)) (hk : k ≠ b) (a0 a1 a2 a3 : Value) : Hid (((((V.setCell ⟨b, 0, none⟩ a0).setCell ⟨b, 1, none⟩ a1).setCell ⟨b, 2, none⟩ a2).setCell ⟨b, 3, none⟩ a3).heap[k]? = some o) := set4_ne h.out hk a0 a1 a2 a3
theorem Touch.of_drew {q : Nat} {w w' : World} (h : Touch q w.drew w') : Touch q w w' := ⟨h.os, h.tape, h.output, h.size, h.block⟩
def listP (f : Nat) (l : Bs) : Option (Ty × Bs) := match numP l with
  | some (n, 40 :: r2) => match readP f r2 with
    | some (t, 41 :: r3) => some (.mk 3 n [] [t], r3)
    | _ => none
  | _ => none
theorem numP_none {l : Bs} (h : numOk (digs3 l) = false) : numP l = none := by unfold numP; rw [h]; rfl
theorem numP_some {l : Bs} (h : numOk (digs3 l) = true) : numP l = some (valD (digs3 l), l.drop (digs3 l).length) := by unfold numP; rw [h]; rfl
/-- The one kid of a list, in new memory. -/
theorem Rd.one {w : World} {S : Nat → Prop} {T : Ty} {nv kv : Value} {b : Nat} {n : Int} (h : Rd w S T nv kv) (hb : w.heap[b]? = some (.cells #[i64 T.kind, i64 T.num, nv, kv] 25)) (hS : S b) : Rd w S (.mk 3 n [] [T]) (.slice none 0 0) (.slice (some ⟨b, 0, none⟩) 1 1) := by
  refine .mk (kids := [T]) b 0 (fun _ => nv) (fun _ => kv) ⟨none, 0, rfl, Nat.zero_le _, ⟨Nat.le_refl _, fun x hx => by simp at hx⟩, Or.inl rfl⟩ (by unfold maxLen; simp) (Or.inr ⟨rfl, hS, blk_lt hb⟩) ?_ ?_
  · intro i T' hT
    have hi : i = 0 := by have := (List.getElem?_eq_some_iff.1 hT).1; simpa using this
    subst hi
    cases hT
    intro j v hv
    rw [blk_cell hb]
    simpa using hv
  · intro i T' hT
    have hi : i = 0 := by have := (List.getElem?_eq_some_iff.1 hT).1; simpa using this
    subst hi
    cases hT
    exact h
/-- The list that was taken, behind the store of the answer. -/
theorem list_fin {w6 : World} {lo q R B : Nat} {T : Ty} {k1 m1 n : Int} {nv kv : Value} (hR : Rd w6 (fun b => lo ≤ b ∧ b ≠ q ∧ b ≠ R) T nv kv) (hB : w6.heap[B]? = some (.cells #[i64 k1, i64 m1, nv, kv] 25)) (hS : lo ≤ B ∧ B ≠ q ∧ B ≠ R) (h1 : k1 = T.kind) (h2 : m1 = T.num) (a0 a1 a2 a3 : Value) :
    Rd ((((w6.setCell ⟨R, 0, none⟩ a0).setCell ⟨R, 1, none⟩ a1).setCell ⟨R, 2, none⟩ a2).setCell ⟨R, 3, none⟩ a3) (fun b => lo ≤ b) (.mk 3 n [] [T]) (.slice none 0 0) (.slice (some ⟨B, 0, none⟩) 1 1) := by
  subst h1 h2
  refine (hR.one (n := n) hB hS).move (by simp [World.setCell]) (fun b hb _ => ⟨hb.1, ?_⟩)
  rw [Below.heap_setCell _ _ _ _ (show b ≠ R from hb.2.2), Below.heap_setCell _ _ _ _ (show b ≠ R from hb.2.2), Below.heap_setCell _ _ _ _ (show b ≠ R from hb.2.2), Below.heap_setCell _ _ _ _ (show b ≠ R from hb.2.2)]
set_option maxRecDepth 100000 in
set_option maxHeartbeats 6400000 in
theorem list_ok (f : Nat) (hrd : ∀ (w : World) (q : Nat) (l : Bs), w.heap[q]? = some (.cells #[str l] 133) → l.length ≤ 1000000 → Mx w q → Calls Tryz.prog 71 #[pq q, i64 (7 - f)] w (Rok w q l.length (readP f l)))
    (hf : f ≤ 6) (w : World) (q : Nat) (l : Bs) (hq : w.heap[q]? = some (.cells #[str l] 133)) (hl : l.length ≤ 1000000) (hM : Mx w q) : Calls Tryz.prog 84 #[pq q, i64 (6 - f)] w (Rok w q l.length (listP f l)) := by
  obtain ⟨res, hres⟩ : ∃ res, res = listP f l := ⟨_, rfl⟩
  have HRes0 := hid hres
  rw [← hres]
  have HRD := hid hrd
  have HM := hid hM
  have hqlt := blk_lt hq
  obtain ⟨D, hD⟩ : ∃ D, D = (6 : Int) - f := ⟨_, rfl⟩
  have hD1 : D + 1 = 7 - f := by omega
  have hD0 : 0 ≤ D := by omega
  have hD2 : D ≤ 6 := by omega
  have HD1 := hid hD1
  rw [← hD]
  have HR0 : Hid ((w.alloc zT).heap[w.heap.size]? = some zT) := heap_last w _
  have HQ0 : Hid ((w.alloc zT).heap[q]? = some (.cells #[str l] 133)) := blk_alloc hq _
  have HT0 : Hid (Touch q w (w.alloc zT)) := hid ((Touch.refl q w).alloc _)
  have hqR : Hid (q ≠ w.heap.size) := by show q ≠ _; omega
  have HRlt : Hid (w.heap.size < (w.alloc zT).heap.size) := by show _ < _; simp
  clear hres hrd hM hq hD hD1 hqlt
  go_enter Tryz.func84, Tryz.ntmps84
  go_upto_region 1 with fail
  obtain ⟨R, hR⟩ : ∃ R, R = w.heap.size := ⟨_, rfl⟩
  rw [← hR] at HR0 hqR HRlt ⊢
  have HRe : Hid (w.heap.size ≤ R) := by show _ ≤ _; omega
  clear hR
  generalize w.alloc zT = V at *
  have HNU : Hid (Calls Tryz.prog 83 #[pq q] V fun e w' => e = .returned (.tuple #[i64 (valD (digs3 l) : Nat), .bool (numOk (digs3 l))]) ∧ w'.heap[q]? = some (.cells #[str (l.drop (digs3 l).length)] 133) ∧ Touch q V w') := number_ok V q l hl HQ0.out
  have HNN := hid (numP_none (l := l))
  have HNS := hid (numP_some (l := l))
  have HLn : Hid ((l.drop (digs3 l).length).length ≤ l.length) := by show _ ≤ _; rw [List.length_drop]; omega
  generalize numOk (digs3 l) = OK at *
  generalize valD (digs3 l) = NV at *
  generalize l.drop (digs3 l).length = l1 at *
  go_wp2_with fail
  refine HNU.out.mono ?_
  rintro e w1 ⟨rfl, hq1, ht1⟩
  have HQ1 := hid hq1
  have HT1 : Hid (Touch q w w1) := HT0.out.trans ht1
  have HR1 : Hid (w1.heap[R]? = some zT) := by show _ = _; rw [ht1.block R HRlt.out (fun e => hqR.out e.symm)]; exact HR0.out
  have HM1 : Hid (Mx w1 q) := HM.out.touch HT1.out
  have fr0 : w1.frozen? ⟨R, 0, none⟩ = false := blk_frozen HR1.out 0
  have fc0 : w1.cell? ⟨R, 0, none⟩ = some (i64 0) := blk_cell HR1.out 0
  have fr1 : w1.frozen? ⟨R, 1, none⟩ = false := blk_frozen HR1.out 1
  have fc1 : w1.cell? ⟨R, 1, none⟩ = some (i64 0) := blk_cell HR1.out 1
  have fr2 : w1.frozen? ⟨R, 2, none⟩ = false := blk_frozen HR1.out 2
  have fc2 : w1.cell? ⟨R, 2, none⟩ = some (.slice none 0 0) := blk_cell HR1.out 2
  have fr3 : w1.frozen? ⟨R, 3, none⟩ = false := blk_frozen HR1.out 3
  have fc3 : w1.cell? ⟨R, 3, none⟩ = some (.slice none 0 0) := blk_cell HR1.out 3
  clear hq1 ht1 HNU
  cases OK with
  | false =>
    have HRes : Hid (res = none) := by show _ = _; rw [HRes0.out]; unfold listP; rw [HNN.out rfl]
    go_wp2_with fail
    refine bodyPost_ret (v := .tuple #[tyV 0 0 (.slice none 0 0) (.slice none 0 0), .bool false]) (results_cell Tryz.results84 rfl rfl (load25 (set4 HR1.out _ _ _ _))) rfl ?_
    exact ⟨0, 0, none, 0, 0, none, 0, 0, _, by rw [HRes.out]; rfl, set4_ne HQ1.out hqR.out _ _ _ _, HLn.out, HT1.out.set4 HRe.out _ _ _ _, fun T r h => by rw [HRes.out] at h; cases h⟩
  | true =>
    have hns := HNS.out rfl
    have HNS2 := hid hns
    clear hns HNS HNN
    by_cases hp : ∃ r2, l1 = 40 :: r2
    · obtain ⟨r2, rfl⟩ := hp
      go_wp2_with fail
      refine (take_hit w1 q 40 r2 HQ1.out).mono ?_
      rintro e w2 ⟨rfl, hq2, ht2⟩
      have HQ2 := hid hq2
      have HT2 : Hid (Touch q w w2) := HT1.out.trans ht2
      have HR2 : Hid (w2.heap[R]? = some zT) := by show _ = _; rw [ht2.block R (blk_lt HR1.out) (fun e => hqR.out e.symm)]; exact HR1.out
      have HM2 : Hid (Mx w2 q) := HM.out.touch HT2.out
      have HL2 : Hid (r2.length + 1 ≤ l.length) := by show _ ≤ _; have := HLn.out; simpa using this
      have HC2 : Hid (Calls Tryz.prog 71 #[pq q, i64 (D + 1)] w2 (Rok w2 q r2.length (readP f r2))) := by show Calls _ _ _ _ _; rw [HD1.out]; exact HRD.out w2 q r2 HQ2.out (by have := HL2.out; omega) HM2.out
      clear hq2 ht2 fr0 fr1 fr2 fr3 fc0 fc1 fc2 fc3
      have fr0 : w2.frozen? ⟨R, 0, none⟩ = false := blk_frozen HR2.out 0
      have fr1 : w2.frozen? ⟨R, 1, none⟩ = false := blk_frozen HR2.out 1
      have fr2 : w2.frozen? ⟨R, 2, none⟩ = false := blk_frozen HR2.out 2
      have fr3 : w2.frozen? ⟨R, 3, none⟩ = false := blk_frozen HR2.out 3
      go_wp2_with fail
      refine HC2.out.mono ?_
      rintro e w3 ⟨k1, m1, a1, n1, c1, a2, n2, c2, l3, rfl, hq3, hl3, ht3, hf3⟩
      have HQ3 := hid hq3
      have HL3 := hid hl3
      have HT3 : Hid (Touch q w w3) := HT2.out.trans ht3
      have HR3 : Hid (w3.heap[R]? = some zT) := by show _ = _; rw [ht3.block R (blk_lt HR2.out) (fun e => hqR.out e.symm)]; exact HR2.out
      have HF3 : Hid (∀ T r, readP f r2 = some (T, r) → l3 = r ∧ k1 = T.kind ∧ m1 = T.num ∧ Rd w3 (fun b => w.heap.size ≤ b) T (.slice a1 n1 c1) (.slice a2 n2 c2)) := fun T r h => by
        obtain ⟨h1, h2, h3, h4⟩ := hf3 T r h
        exact ⟨h1, h2, h3, h4.mono (fun b hb _ => Nat.le_trans HT2.out.size hb)⟩
      have HRX0 : Hid (∀ T r, readP f r2 = some (T, r) → Rd (w3.alloc (.cells #[i64 k1, i64 m1, .slice a1 n1 c1, .slice a2 n2 c2] 25)).drew (fun b => w.heap.size ≤ b ∧ b ≠ q ∧ b ≠ R) T (.slice a1 n1 c1) (.slice a2 n2 c2)) := fun T r h => by
        obtain ⟨_, _, _, h4⟩ := hf3 T r h
        have hz1 := blk_lt HQ2.out
        have hz2 := blk_lt HR2.out
        have hz3 := HT2.out.size
        refine h4.move (by show w3.heap.size ≤ (w3.alloc _).heap.size; simp) (fun b hb hlt => ⟨⟨by omega, by omega, by omega⟩, Below.heap_alloc _ _ _ hlt⟩)
      have HKx : Hid ((w3.alloc (.cells #[i64 k1, i64 m1, .slice a1 n1 c1, .slice a2 n2 c2] 25)).heap[w3.heap.size]? = some (.cells #[i64 k1, i64 m1, .slice a1 n1 c1, .slice a2 n2 c2] 25)) := heap_last w3 _
      have HQ4 : Hid ((w3.alloc (.cells #[i64 k1, i64 m1, .slice a1 n1 c1, .slice a2 n2 c2] 25)).heap[q]? = some (.cells #[str l3] 133)) := blk_alloc HQ3.out _
      have HR4 : Hid ((w3.alloc (.cells #[i64 k1, i64 m1, .slice a1 n1 c1, .slice a2 n2 c2] 25)).heap[R]? = some zT) := blk_alloc HR3.out _
      have HT4 : Hid (Touch q w (w3.alloc (.cells #[i64 k1, i64 m1, .slice a1 n1 c1, .slice a2 n2 c2] 25))) := HT3.out.alloc _
      have HB4 : Hid (Below w3.heap.size w3 (w3.alloc (.cells #[i64 k1, i64 m1, .slice a1 n1 c1, .slice a2 n2 c2] 25))) := below_one w3 _
      have HKlt : Hid (q < w3.heap.size ∧ R < w3.heap.size) := ⟨blk_lt HQ3.out, blk_lt HR3.out⟩
      clear hq3 hl3 ht3 hf3 fr0 fr1 fr2 fr3 HC2
      go_upto_region 5 with fail
      obtain ⟨Kb, hK⟩ : ∃ Kb, Kb = w3.heap.size := ⟨_, rfl⟩
      have HKe := hid hK
      rw [← hK] at HKx HKlt ⊢
      clear hK
      have HF4 : Hid (∀ T r, readP f r2 = some (T, r) → l3 = r ∧ k1 = T.kind ∧ m1 = T.num ∧ Rd (w3.alloc (.cells #[i64 k1, i64 m1, .slice a1 n1 c1, .slice a2 n2 c2] 25)) (fun b => w.heap.size ≤ b) T (.slice a1 n1 c1) (.slice a2 n2 c2)) := fun T r h => by
        obtain ⟨h1, h2, h3, h4⟩ := HF3.out T r h
        exact ⟨h1, h2, h3, h4.under HB4.out⟩
      have HRX : Hid (∀ T r, readP f r2 = some (T, r) → Rd (w3.alloc (.cells #[i64 k1, i64 m1, .slice a1 n1 c1, .slice a2 n2 c2] 25)).drew (fun b => w.heap.size ≤ b ∧ b ≠ q ∧ b ≠ R) T (.slice a1 n1 c1) (.slice a2 n2 c2)) := HRX0
      clear HRX0 HF3
      generalize w3.alloc (.cells #[i64 k1, i64 m1, .slice a1 n1 c1, .slice a2 n2 c2] 25) = X at *
      obtain ⟨hKq, hKR⟩ := HKlt.out
      cases hread : readP f r2 with
      | none =>
        have HRes : Hid (res = none) := by show _ = _; rw [HRes0.out]; unfold listP; rw [HNS2.out]; simp only [hread]
        clear HF4 hread HRX
        have HSX : Hid ((fun W => W.heap[Kb]? = some (.cells #[i64 k1, i64 m1, .slice a1 n1 c1, .slice a2 n2 c2] 25)) X.drew) := HKx.out
        refine wp_region_noPanic ?_
        refine wp_region_last (fun W => W.heap[Kb]? = some (.cells #[i64 k1, i64 m1, .slice a1 n1 c1, .slice a2 n2 c2] 25)) 10 (by kernel_rfl) ?_
        refine wpL_take 0 29 (i64 NV) [] rfl rfl (by kernel_rfl) (by decide) (by kernel_rfl) (by kernel_rfl) (by kernel_rfl) (fun _ _ _ h => h) HSX.out (by rfl) (fun W hW => by go_simp) ?_
        simp only [Act.put, List.setIfInBounds_toArray, List.set_cons_zero, List.set_cons_succ]
        refine wpL_take 1 30 (.agg #[i64 k1, i64 m1, .slice a1 n1 c1, .slice a2 n2 c2]) [] rfl rfl (by kernel_rfl) (by decide) (by kernel_rfl) (by kernel_rfl) (by kernel_rfl) (fun _ _ _ h => h) HSX.out (by rfl) (fun W hW => by have d0 : W.cell? ⟨Kb, 0, none⟩ = some (i64 k1) := blk_cell hW 0; have d1 : W.cell? ⟨Kb, 1, none⟩ = some (i64 m1) := blk_cell hW 1; have d2 : W.cell? ⟨Kb, 2, none⟩ = some (.slice a1 n1 c1) := blk_cell hW 2; have d3 : W.cell? ⟨Kb, 3, none⟩ = some (.slice a2 n2 c2) := blk_cell hW 3; go_simp) ?_
        simp only [Act.put, List.setIfInBounds_toArray, List.set_cons_zero, List.set_cons_succ]
        refine wpL_take 4 33 (.bool false) [] rfl rfl (by kernel_rfl) (by decide) (by kernel_rfl) (by kernel_rfl) (by kernel_rfl) (fun _ _ _ h => h) HSX.out (by rfl) (fun W hW => by go_simp) ?_
        simp only [Act.put, List.setIfInBounds_toArray, List.set_cons_zero, List.set_cons_succ]
        refine wpL_take 5 34 (.bool false) [] rfl rfl (by kernel_rfl) (by decide) (by kernel_rfl) (by kernel_rfl) (by kernel_rfl) (fun _ _ _ h => h) HSX.out (by rfl) (fun W hW => by go_simp) ?_
        simp only [Act.put, List.setIfInBounds_toArray, List.set_cons_zero, List.set_cons_succ]
        refine wpL_skip 6 35 [] rfl rfl (by kernel_rfl) (by decide) (by kernel_rfl) (by kernel_rfl) (by kernel_rfl) (fun _ _ _ h => h) HSX.out (by rfl) ?_
        simp only [Act.put, List.setIfInBounds_toArray, List.set_cons_zero, List.set_cons_succ]
        refine wpL_skip 7 36 [] rfl rfl (by kernel_rfl) (by decide) (by kernel_rfl) (by kernel_rfl) (by kernel_rfl) (fun _ _ _ h => h) HSX.out (by rfl) ?_
        simp only [Act.put, List.setIfInBounds_toArray, List.set_cons_zero, List.set_cons_succ]
        refine wpL_take 8 37 (.bool false) [] rfl rfl (by kernel_rfl) (by decide) (by kernel_rfl) (by kernel_rfl) (by kernel_rfl) (fun _ _ _ h => h) HSX.out (by rfl) (fun W hW => by go_simp) ?_
        simp only [Act.put, List.setIfInBounds_toArray, List.set_cons_zero, List.set_cons_succ]
        have HS5 : Hid ((fun W => W.heap[Kb]? = some (.cells #[i64 k1, i64 m1, .slice a1 n1 c1, .slice a2 n2 c2] 25)) (X.alloc (.cells #[i64 k1, i64 m1, .slice a1 n1 c1, .slice a2 n2 c2] 25)).drew) := blk_alloc HKx.out _
        have HR5 : Hid ((X.alloc (.cells #[i64 k1, i64 m1, .slice a1 n1 c1, .slice a2 n2 c2] 25)).drew.heap[R]? = some zT) := blk_alloc HR4.out _
        have HQ5 : Hid ((X.alloc (.cells #[i64 k1, i64 m1, .slice a1 n1 c1, .slice a2 n2 c2] 25)).drew.heap[q]? = some (.cells #[str l3] 133)) := blk_alloc HQ4.out _
        have HT5 : Hid (Touch q w (X.alloc (.cells #[i64 k1, i64 m1, .slice a1 n1 c1, .slice a2 n2 c2] 25)).drew) := (HT4.out.alloc _).drew
        refine wpL_one 2 rfl (by kernel_rfl) (by rfl) (fun K hK => ?_)
        go_simp
        refine hK.out _ _ (fun _ => HS5.out) ?_
        clear hK K
        generalize (X.alloc (.cells #[i64 k1, i64 m1, .slice a1 n1 c1, .slice a2 n2 c2] 25)).drew = Y at *
        refine wpL_take 3 32 (.agg #[i64 3, i64 NV, .slice none 0 0, .slice (some ⟨X.heap.size, 0, none⟩) 1 1]) [] rfl rfl (by kernel_rfl) (by decide) (by kernel_rfl) (by kernel_rfl) (by kernel_rfl) (fun _ _ _ h => h) HS5.out (by rfl) (fun W hW => by go_simp) ?_
        simp only [Act.put, List.setIfInBounds_toArray, List.set_cons_zero, List.set_cons_succ]
        have fr0 : Y.frozen? ⟨R, 0, none⟩ = false := blk_frozen HR5.out 0
        have fc0 : Y.cell? ⟨R, 0, none⟩ = some (i64 0) := blk_cell HR5.out 0
        have fr1 : Y.frozen? ⟨R, 1, none⟩ = false := blk_frozen HR5.out 1
        have fc1 : Y.cell? ⟨R, 1, none⟩ = some (i64 0) := blk_cell HR5.out 1
        have fr2 : Y.frozen? ⟨R, 2, none⟩ = false := blk_frozen HR5.out 2
        have fc2 : Y.cell? ⟨R, 2, none⟩ = some (.slice none 0 0) := blk_cell HR5.out 2
        have fr3 : Y.frozen? ⟨R, 3, none⟩ = false := blk_frozen HR5.out 3
        have fc3 : Y.cell? ⟨R, 3, none⟩ = some (.slice none 0 0) := blk_cell HR5.out 3
        refine wpL_one 9 rfl (by kernel_rfl) (by rfl) (fun K hK => ?_)
        go_simp
        refine hK.out _ _ (fun _ => set4_ne HS5.out (show Kb ≠ R by omega) _ _ _ _) ?_
        clear hK K
        refine wpL_one 10 rfl (by kernel_rfl) (by rfl) (fun K hK => ?_)
        go_simp
        refine hK.out _ _ (fun h => absurd rfl h) ?_
        clear hK K
        refine wpL_done (by kernel_rfl) ?_
        refine NoPanic.normal ?_
        go_wp2_with fail
        refine bodyPost_ret (v := .tuple #[tyV 3 NV (.slice none 0 0) (.slice (some ⟨X.heap.size, 0, none⟩) 1 1), .bool false]) (results_cell Tryz.results84 rfl rfl (load25 (set4 HR5.out _ _ _ _))) rfl ?_
        exact ⟨3, NV, none, 0, 0, _, 1, 1, l3, by rw [HRes.out]; rfl, set4_ne HQ5.out hqR.out _ _ _ _, (by have := HL3.out; have := HL2.out; omega), HT5.out.set4 HRe.out _ _ _ _, fun T r h => by rw [HRes.out] at h; cases h⟩
      | some x =>
        obtain ⟨T, rr⟩ := x
        obtain ⟨g1, g2, g3, g4⟩ := HF4.out T rr hread
        subst g1
        have hXs : w.heap.size ≤ X.heap.size := HT4.out.size
        have hRX : R < X.heap.size := blk_lt HR4.out
        have hqX : q < X.heap.size := blk_lt HQ4.out
        have HRTX : Hid (Rd X.drew (fun b => w.heap.size ≤ b ∧ b ≠ q ∧ b ≠ R) T (.slice a1 n1 c1) (.slice a2 n2 c2)) := HRX.out T _ hread
        have HKT : Hid (k1 = T.kind ∧ m1 = T.num) := ⟨g2, g3⟩
        clear g2 g3 g4 HF4 HRX
        by_cases h41 : ∃ r4, l3 = 41 :: r4
        · skip
          obtain ⟨r4, rfl⟩ := h41
          have HRes : Hid (res = some (.mk 3 NV [] [T], r4)) := by show _ = _; rw [HRes0.out]; unfold listP; rw [HNS2.out]; simp only [hread]
          clear hread
          have HTK : Hid (∀ W, W.heap[q]? = some (.cells #[str (41 :: r4)] 133) → Calls Tryz.prog 82 #[pq q, str [41]] W fun e w' => e = .returned (.bool true) ∧ w'.heap[q]? = some (.cells #[str r4] 133) ∧ Touch q W w') := fun W hW => take_hit W q 41 r4 hW
          have HSX : Hid ((fun W => W.heap[Kb]? = some (.cells #[i64 k1, i64 m1, .slice a1 n1 c1, .slice a2 n2 c2] 25)) X.drew) := HKx.out
          refine wp_region_noPanic ?_
          refine wp_region_last (fun W => W.heap[Kb]? = some (.cells #[i64 k1, i64 m1, .slice a1 n1 c1, .slice a2 n2 c2] 25)) 10 (by kernel_rfl) ?_
          refine wpL_take 0 29 (i64 NV) [] rfl rfl (by kernel_rfl) (by decide) (by kernel_rfl) (by kernel_rfl) (by kernel_rfl) (fun _ _ _ h => h) HSX.out (by rfl) (fun W hW => by go_simp) ?_
          simp only [Act.put, List.setIfInBounds_toArray, List.set_cons_zero, List.set_cons_succ]
          refine wpL_take 1 30 (.agg #[i64 k1, i64 m1, .slice a1 n1 c1, .slice a2 n2 c2]) [] rfl rfl (by kernel_rfl) (by decide) (by kernel_rfl) (by kernel_rfl) (by kernel_rfl) (fun _ _ _ h => h) HSX.out (by rfl) (fun W hW => by have d0 : W.cell? ⟨Kb, 0, none⟩ = some (i64 k1) := blk_cell hW 0; have d1 : W.cell? ⟨Kb, 1, none⟩ = some (i64 m1) := blk_cell hW 1; have d2 : W.cell? ⟨Kb, 2, none⟩ = some (.slice a1 n1 c1) := blk_cell hW 2; have d3 : W.cell? ⟨Kb, 3, none⟩ = some (.slice a2 n2 c2) := blk_cell hW 3; go_simp) ?_
          simp only [Act.put, List.setIfInBounds_toArray, List.set_cons_zero, List.set_cons_succ]
          refine wpL_take 4 33 (.bool true) [] rfl rfl (by kernel_rfl) (by decide) (by kernel_rfl) (by kernel_rfl) (by kernel_rfl) (fun _ _ _ h => h) HSX.out (by rfl) (fun W hW => by go_simp) ?_
          simp only [Act.put, List.setIfInBounds_toArray, List.set_cons_zero, List.set_cons_succ]
          refine wpL_take 5 34 (.bool true) [] rfl rfl (by kernel_rfl) (by decide) (by kernel_rfl) (by kernel_rfl) (by kernel_rfl) (fun _ _ _ h => h) HSX.out (by rfl) (fun W hW => by go_simp) ?_
          simp only [Act.put, List.setIfInBounds_toArray, List.set_cons_zero, List.set_cons_succ]
          refine wpL_take 6 35 (pq q) [] rfl rfl (by kernel_rfl) (by decide) (by kernel_rfl) (by kernel_rfl) (by kernel_rfl) (fun _ _ _ h => h) HSX.out (by rfl) (fun W hW => by go_simp) ?_
          simp only [Act.put, List.setIfInBounds_toArray, List.set_cons_zero, List.set_cons_succ]
          refine wpL_two 2 7 rfl rfl (by kernel_rfl) (by rfl) (by rfl) (fun K0 hK0 => ?_) (fun K0 hK0 => ?_)
          · go_simp
            have HS5 : Hid ((fun W => W.heap[Kb]? = some (.cells #[i64 k1, i64 m1, .slice a1 n1 c1, .slice a2 n2 c2] 25)) (X.alloc (.cells #[i64 k1, i64 m1, .slice a1 n1 c1, .slice a2 n2 c2] 25)).drew) := blk_alloc HKx.out _
            have HR5 : Hid ((X.alloc (.cells #[i64 k1, i64 m1, .slice a1 n1 c1, .slice a2 n2 c2] 25)).drew.heap[R]? = some zT) := blk_alloc HR4.out _
            have HQ5 : Hid ((X.alloc (.cells #[i64 k1, i64 m1, .slice a1 n1 c1, .slice a2 n2 c2] 25)).drew.heap[q]? = some (.cells #[str (41 :: r4)] 133)) := blk_alloc HQ4.out _
            have HT5 : Hid (Touch q w (X.alloc (.cells #[i64 k1, i64 m1, .slice a1 n1 c1, .slice a2 n2 c2] 25)).drew) := (HT4.out.alloc _).drew
            have HN5 : Hid ((X.alloc (.cells #[i64 k1, i64 m1, .slice a1 n1 c1, .slice a2 n2 c2] 25)).drew.heap[X.heap.size]? = some (.cells #[i64 k1, i64 m1, .slice a1 n1 c1, .slice a2 n2 c2] 25)) := heap_last X _
            have HRT5 : Hid (Rd (X.alloc (.cells #[i64 k1, i64 m1, .slice a1 n1 c1, .slice a2 n2 c2] 25)).drew (fun b => w.heap.size ≤ b ∧ b ≠ q ∧ b ≠ R) T (.slice a1 n1 c1) (.slice a2 n2 c2)) := HRTX.out.move (by show X.heap.size ≤ (X.alloc _).heap.size; simp) (fun b hb hlt => ⟨hb, Below.heap_alloc X _ _ hlt⟩)
            refine hK0.out _ _ (fun _ => HS5.out) ?_
            clear hK0 K0
            obtain ⟨B, hB⟩ : ∃ B, B = X.heap.size := ⟨_, rfl⟩
            have hBlo : X.heap.size ≤ B := by rw [hB]; exact Nat.le_refl _
            rw [← hB] at HN5 ⊢
            clear hB
            generalize (X.alloc (.cells #[i64 k1, i64 m1, .slice a1 n1 c1, .slice a2 n2 c2] 25)).drew = Y at *
            refine wpL_take 3 32 (.agg #[i64 3, i64 NV, .slice none 0 0, .slice (some ⟨B, 0, none⟩) 1 1]) [] rfl rfl (by kernel_rfl) (by decide) (by kernel_rfl) (by kernel_rfl) (by kernel_rfl) (fun _ _ _ h => h) HS5.out (by rfl) (fun W hW => by go_simp) ?_
            simp only [Act.put, List.setIfInBounds_toArray, List.set_cons_zero, List.set_cons_succ]
            refine wpL_one 7 rfl (by kernel_rfl) (by rfl) (fun K hK => ?_)
            go_simp
            refine (HTK.out Y HQ5.out).mono ?_
            rintro e w6 ⟨rfl, hq6, ht6⟩
            have HQ6 := hid hq6
            have HT6 : Hid (Touch q w w6) := HT5.out.trans ht6
            have HR6 : Hid (w6.heap[R]? = some zT) := by show _ = _; rw [ht6.block R (blk_lt HR5.out) (fun e => hqR.out e.symm)]; exact HR5.out
            have HS6 : Hid ((fun W => W.heap[Kb]? = some (.cells #[i64 k1, i64 m1, .slice a1 n1 c1, .slice a2 n2 c2] 25)) w6) := by show _ = _; rw [ht6.block Kb (blk_lt HS5.out) (by omega)]; exact HS5.out
            have HN6 : Hid (w6.heap[B]? = some (.cells #[i64 k1, i64 m1, .slice a1 n1 c1, .slice a2 n2 c2] 25)) := by show _ = _; rw [ht6.block B (blk_lt HN5.out) (by omega)]; exact HN5.out
            have HRT6 : Hid (Rd w6 (fun b => w.heap.size ≤ b ∧ b ≠ q ∧ b ≠ R) T (.slice a1 n1 c1) (.slice a2 n2 c2)) := HRT5.out.move ht6.size (fun b hb hlt => ⟨hb, ht6.block b hlt hb.2.1⟩)
            clear hq6 ht6
            go_simp
            refine hK.out _ _ (fun _ => HS6.out) ?_
            clear hK K
            refine wpL_take 8 37 (.bool true) [] rfl rfl (by kernel_rfl) (by decide) (by kernel_rfl) (by kernel_rfl) (by kernel_rfl) (fun _ _ _ h => h) HS6.out (by rfl) (fun W hW => by go_simp) ?_
            simp only [Act.put, List.setIfInBounds_toArray, List.set_cons_zero, List.set_cons_succ]
            have fr0 : w6.frozen? ⟨R, 0, none⟩ = false := blk_frozen HR6.out 0
            have fc0 : w6.cell? ⟨R, 0, none⟩ = some (i64 0) := blk_cell HR6.out 0
            have fr1 : w6.frozen? ⟨R, 1, none⟩ = false := blk_frozen HR6.out 1
            have fc1 : w6.cell? ⟨R, 1, none⟩ = some (i64 0) := blk_cell HR6.out 1
            have fr2 : w6.frozen? ⟨R, 2, none⟩ = false := blk_frozen HR6.out 2
            have fc2 : w6.cell? ⟨R, 2, none⟩ = some (.slice none 0 0) := blk_cell HR6.out 2
            have fr3 : w6.frozen? ⟨R, 3, none⟩ = false := blk_frozen HR6.out 3
            have fc3 : w6.cell? ⟨R, 3, none⟩ = some (.slice none 0 0) := blk_cell HR6.out 3
            refine wpL_one 9 rfl (by kernel_rfl) (by rfl) (fun K hK => ?_)
            go_simp
            refine hK.out _ _ (fun _ => set4_ne HS6.out (show Kb ≠ R by omega) _ _ _ _) ?_
            clear hK K
            refine wpL_one 10 rfl (by kernel_rfl) (by rfl) (fun K hK => ?_)
            go_simp
            refine hK.out _ _ (fun h => absurd rfl h) ?_
            clear hK K
            refine wpL_done (by kernel_rfl) ?_
            refine NoPanic.normal ?_
            go_wp2_with fail
            refine bodyPost_ret (v := .tuple #[tyV 3 NV (.slice none 0 0) (.slice (some ⟨B, 0, none⟩) 1 1), .bool true]) (results_cell Tryz.results84 rfl rfl (load25 (set4 HR6.out _ _ _ _))) rfl ?_
            exact ⟨3, NV, none, 0, 0, _, 1, 1, r4, by rw [HRes.out]; rfl, set4_ne HQ6.out hqR.out _ _ _ _, (by have h1 := HL3.out; have h2 := HL2.out; rw [List.length_cons] at h1; omega), HT6.out.set4 HRe.out _ _ _ _, fun T' r' h => by rw [HRes.out] at h; cases h; exact ⟨rfl, rfl, rfl, list_fin HRT6.out HN6.out ⟨by omega, by omega, by omega⟩ HKT.out.1 HKT.out.2 _ _ _ _⟩⟩
          · go_simp
            refine (HTK.out X.drew HQ4.out).mono ?_
            rintro e w5 ⟨rfl, hq5, ht5⟩
            have HT5 : Hid (Touch q w w5) := HT4.out.drew.trans ht5
            have HR5 : Hid (w5.heap[R]? = some zT) := by show _ = _; rw [ht5.block R (blk_lt (w := X.drew) HR4.out) (fun e => hqR.out e.symm)]; exact HR4.out
            have HS5 : Hid ((fun W => W.heap[Kb]? = some (.cells #[i64 k1, i64 m1, .slice a1 n1 c1, .slice a2 n2 c2] 25)) w5) := by show _ = _; rw [ht5.block Kb (blk_lt (w := X.drew) HSX.out) (by omega)]; exact HSX.out
            have HRT5 : Hid (Rd w5 (fun b => w.heap.size ≤ b ∧ b ≠ q ∧ b ≠ R) T (.slice a1 n1 c1) (.slice a2 n2 c2)) := HRTX.out.move ht5.size (fun b hb hlt => ⟨hb, ht5.block b hlt hb.2.1⟩)
            have HQ5 := hid hq5
            have hX5 : X.heap.size ≤ w5.heap.size := ht5.size
            clear hq5 ht5
            go_simp
            refine hK0.out _ _ (fun _ => HS5.out) ?_
            clear hK0 K0
            refine wpL_take 8 37 (.bool true) [] rfl rfl (by kernel_rfl) (by decide) (by kernel_rfl) (by kernel_rfl) (by kernel_rfl) (fun _ _ _ h => h) HS5.out (by rfl) (fun W hW => by go_simp) ?_
            simp only [Act.put, List.setIfInBounds_toArray, List.set_cons_zero, List.set_cons_succ]
            have HS6 : Hid ((fun W => W.heap[Kb]? = some (.cells #[i64 k1, i64 m1, .slice a1 n1 c1, .slice a2 n2 c2] 25)) (w5.alloc (.cells #[i64 k1, i64 m1, .slice a1 n1 c1, .slice a2 n2 c2] 25))) := blk_alloc HS5.out _
            have HR6 : Hid ((w5.alloc (.cells #[i64 k1, i64 m1, .slice a1 n1 c1, .slice a2 n2 c2] 25)).heap[R]? = some zT) := blk_alloc HR5.out _
            have HQ6 : Hid ((w5.alloc (.cells #[i64 k1, i64 m1, .slice a1 n1 c1, .slice a2 n2 c2] 25)).heap[q]? = some (.cells #[str r4] 133)) := blk_alloc HQ5.out _
            have HT6 : Hid (Touch q w (w5.alloc (.cells #[i64 k1, i64 m1, .slice a1 n1 c1, .slice a2 n2 c2] 25))) := HT5.out.alloc _
            have HN6 : Hid ((w5.alloc (.cells #[i64 k1, i64 m1, .slice a1 n1 c1, .slice a2 n2 c2] 25)).heap[w5.heap.size]? = some (.cells #[i64 k1, i64 m1, .slice a1 n1 c1, .slice a2 n2 c2] 25)) := heap_last w5 _
            have HRT6 : Hid (Rd (w5.alloc (.cells #[i64 k1, i64 m1, .slice a1 n1 c1, .slice a2 n2 c2] 25)) (fun b => w.heap.size ≤ b ∧ b ≠ q ∧ b ≠ R) T (.slice a1 n1 c1) (.slice a2 n2 c2)) := HRT5.out.move (by simp) (fun b hb hlt => ⟨hb, Below.heap_alloc _ _ _ hlt⟩)
            refine wpL_one 2 rfl (by kernel_rfl) (by rfl) (fun K hK => ?_)
            go_simp
            refine hK.out _ _ (fun _ => HS6.out) ?_
            clear hK K
            obtain ⟨B, hB⟩ : ∃ B, B = w5.heap.size := ⟨_, rfl⟩
            have hBlo : X.heap.size ≤ B := by rw [hB]; exact hX5
            rw [← hB] at HN6 ⊢
            clear hB
            generalize (w5.alloc (.cells #[i64 k1, i64 m1, .slice a1 n1 c1, .slice a2 n2 c2] 25)) = w6 at *
            refine wpL_take 3 32 (.agg #[i64 3, i64 NV, .slice none 0 0, .slice (some ⟨B, 0, none⟩) 1 1]) [] rfl rfl (by kernel_rfl) (by decide) (by kernel_rfl) (by kernel_rfl) (by kernel_rfl) (fun _ _ _ h => h) HS6.out (by rfl) (fun W hW => by go_simp) ?_
            simp only [Act.put, List.setIfInBounds_toArray, List.set_cons_zero, List.set_cons_succ]
            have fr0 : w6.frozen? ⟨R, 0, none⟩ = false := blk_frozen HR6.out 0
            have fc0 : w6.cell? ⟨R, 0, none⟩ = some (i64 0) := blk_cell HR6.out 0
            have fr1 : w6.frozen? ⟨R, 1, none⟩ = false := blk_frozen HR6.out 1
            have fc1 : w6.cell? ⟨R, 1, none⟩ = some (i64 0) := blk_cell HR6.out 1
            have fr2 : w6.frozen? ⟨R, 2, none⟩ = false := blk_frozen HR6.out 2
            have fc2 : w6.cell? ⟨R, 2, none⟩ = some (.slice none 0 0) := blk_cell HR6.out 2
            have fr3 : w6.frozen? ⟨R, 3, none⟩ = false := blk_frozen HR6.out 3
            have fc3 : w6.cell? ⟨R, 3, none⟩ = some (.slice none 0 0) := blk_cell HR6.out 3
            refine wpL_one 9 rfl (by kernel_rfl) (by rfl) (fun K hK => ?_)
            go_simp
            refine hK.out _ _ (fun _ => set4_ne HS6.out (show Kb ≠ R by omega) _ _ _ _) ?_
            clear hK K
            refine wpL_one 10 rfl (by kernel_rfl) (by rfl) (fun K hK => ?_)
            go_simp
            refine hK.out _ _ (fun h => absurd rfl h) ?_
            clear hK K
            refine wpL_done (by kernel_rfl) ?_
            refine NoPanic.normal ?_
            go_wp2_with fail
            refine bodyPost_ret (v := .tuple #[tyV 3 NV (.slice none 0 0) (.slice (some ⟨B, 0, none⟩) 1 1), .bool true]) (results_cell Tryz.results84 rfl rfl (load25 (set4 HR6.out _ _ _ _))) rfl ?_
            exact ⟨3, NV, none, 0, 0, _, 1, 1, r4, by rw [HRes.out]; rfl, set4_ne HQ6.out hqR.out _ _ _ _, (by have h1 := HL3.out; have h2 := HL2.out; rw [List.length_cons] at h1; omega), HT6.out.set4 HRe.out _ _ _ _, fun T' r' h => by rw [HRes.out] at h; cases h; exact ⟨rfl, rfl, rfl, list_fin HRT6.out HN6.out ⟨by omega, by omega, by omega⟩ HKT.out.1 HKT.out.2 _ _ _ _⟩⟩
        · skip
          have HRes : Hid (res = none) := by
            show _ = _
            rw [HRes0.out]
            unfold listP
            rw [HNS2.out]
            simp only [hread]
            split
            · rename_i heq
              cases heq
              exact absurd ⟨_, rfl⟩ h41
            · rfl
          clear hread
          have HTK : Hid (∀ W, W.heap[q]? = some (.cells #[str l3] 133) → Calls Tryz.prog 82 #[pq q, str [41]] W fun e w' => e = .returned (.bool false) ∧ w'.heap[q]? = some (.cells #[str l3] 133) ∧ Touch q W w') := fun W hW => take_miss W q 41 l3 (fun r e => h41 ⟨r, e⟩) hW
          have HSX : Hid ((fun W => W.heap[Kb]? = some (.cells #[i64 k1, i64 m1, .slice a1 n1 c1, .slice a2 n2 c2] 25)) X.drew) := HKx.out
          refine wp_region_noPanic ?_
          refine wp_region_last (fun W => W.heap[Kb]? = some (.cells #[i64 k1, i64 m1, .slice a1 n1 c1, .slice a2 n2 c2] 25)) 10 (by kernel_rfl) ?_
          refine wpL_take 0 29 (i64 NV) [] rfl rfl (by kernel_rfl) (by decide) (by kernel_rfl) (by kernel_rfl) (by kernel_rfl) (fun _ _ _ h => h) HSX.out (by rfl) (fun W hW => by go_simp) ?_
          simp only [Act.put, List.setIfInBounds_toArray, List.set_cons_zero, List.set_cons_succ]
          refine wpL_take 1 30 (.agg #[i64 k1, i64 m1, .slice a1 n1 c1, .slice a2 n2 c2]) [] rfl rfl (by kernel_rfl) (by decide) (by kernel_rfl) (by kernel_rfl) (by kernel_rfl) (fun _ _ _ h => h) HSX.out (by rfl) (fun W hW => by have d0 : W.cell? ⟨Kb, 0, none⟩ = some (i64 k1) := blk_cell hW 0; have d1 : W.cell? ⟨Kb, 1, none⟩ = some (i64 m1) := blk_cell hW 1; have d2 : W.cell? ⟨Kb, 2, none⟩ = some (.slice a1 n1 c1) := blk_cell hW 2; have d3 : W.cell? ⟨Kb, 3, none⟩ = some (.slice a2 n2 c2) := blk_cell hW 3; go_simp) ?_
          simp only [Act.put, List.setIfInBounds_toArray, List.set_cons_zero, List.set_cons_succ]
          refine wpL_take 4 33 (.bool true) [] rfl rfl (by kernel_rfl) (by decide) (by kernel_rfl) (by kernel_rfl) (by kernel_rfl) (fun _ _ _ h => h) HSX.out (by rfl) (fun W hW => by go_simp) ?_
          simp only [Act.put, List.setIfInBounds_toArray, List.set_cons_zero, List.set_cons_succ]
          refine wpL_take 5 34 (.bool true) [] rfl rfl (by kernel_rfl) (by decide) (by kernel_rfl) (by kernel_rfl) (by kernel_rfl) (fun _ _ _ h => h) HSX.out (by rfl) (fun W hW => by go_simp) ?_
          simp only [Act.put, List.setIfInBounds_toArray, List.set_cons_zero, List.set_cons_succ]
          refine wpL_take 6 35 (pq q) [] rfl rfl (by kernel_rfl) (by decide) (by kernel_rfl) (by kernel_rfl) (by kernel_rfl) (fun _ _ _ h => h) HSX.out (by rfl) (fun W hW => by go_simp) ?_
          simp only [Act.put, List.setIfInBounds_toArray, List.set_cons_zero, List.set_cons_succ]
          refine wpL_two 2 7 rfl rfl (by kernel_rfl) (by rfl) (by rfl) (fun K0 hK0 => ?_) (fun K0 hK0 => ?_)
          · go_simp
            have HS5 : Hid ((fun W => W.heap[Kb]? = some (.cells #[i64 k1, i64 m1, .slice a1 n1 c1, .slice a2 n2 c2] 25)) (X.alloc (.cells #[i64 k1, i64 m1, .slice a1 n1 c1, .slice a2 n2 c2] 25)).drew) := blk_alloc HKx.out _
            have HR5 : Hid ((X.alloc (.cells #[i64 k1, i64 m1, .slice a1 n1 c1, .slice a2 n2 c2] 25)).drew.heap[R]? = some zT) := blk_alloc HR4.out _
            have HQ5 : Hid ((X.alloc (.cells #[i64 k1, i64 m1, .slice a1 n1 c1, .slice a2 n2 c2] 25)).drew.heap[q]? = some (.cells #[str l3] 133)) := blk_alloc HQ4.out _
            have HT5 : Hid (Touch q w (X.alloc (.cells #[i64 k1, i64 m1, .slice a1 n1 c1, .slice a2 n2 c2] 25)).drew) := (HT4.out.alloc _).drew
            have HN5 : Hid ((X.alloc (.cells #[i64 k1, i64 m1, .slice a1 n1 c1, .slice a2 n2 c2] 25)).drew.heap[X.heap.size]? = some (.cells #[i64 k1, i64 m1, .slice a1 n1 c1, .slice a2 n2 c2] 25)) := heap_last X _
            have HRT5 : Hid (Rd (X.alloc (.cells #[i64 k1, i64 m1, .slice a1 n1 c1, .slice a2 n2 c2] 25)).drew (fun b => w.heap.size ≤ b ∧ b ≠ q ∧ b ≠ R) T (.slice a1 n1 c1) (.slice a2 n2 c2)) := HRTX.out.move (by show X.heap.size ≤ (X.alloc _).heap.size; simp) (fun b hb hlt => ⟨hb, Below.heap_alloc X _ _ hlt⟩)
            refine hK0.out _ _ (fun _ => HS5.out) ?_
            clear hK0 K0
            obtain ⟨B, hB⟩ : ∃ B, B = X.heap.size := ⟨_, rfl⟩
            have hBlo : X.heap.size ≤ B := by rw [hB]; exact Nat.le_refl _
            rw [← hB] at HN5 ⊢
            clear hB
            generalize (X.alloc (.cells #[i64 k1, i64 m1, .slice a1 n1 c1, .slice a2 n2 c2] 25)).drew = Y at *
            refine wpL_take 3 32 (.agg #[i64 3, i64 NV, .slice none 0 0, .slice (some ⟨B, 0, none⟩) 1 1]) [] rfl rfl (by kernel_rfl) (by decide) (by kernel_rfl) (by kernel_rfl) (by kernel_rfl) (fun _ _ _ h => h) HS5.out (by rfl) (fun W hW => by go_simp) ?_
            simp only [Act.put, List.setIfInBounds_toArray, List.set_cons_zero, List.set_cons_succ]
            refine wpL_one 7 rfl (by kernel_rfl) (by rfl) (fun K hK => ?_)
            go_simp
            refine (HTK.out Y HQ5.out).mono ?_
            rintro e w6 ⟨rfl, hq6, ht6⟩
            have HQ6 := hid hq6
            have HT6 : Hid (Touch q w w6) := HT5.out.trans ht6
            have HR6 : Hid (w6.heap[R]? = some zT) := by show _ = _; rw [ht6.block R (blk_lt HR5.out) (fun e => hqR.out e.symm)]; exact HR5.out
            have HS6 : Hid ((fun W => W.heap[Kb]? = some (.cells #[i64 k1, i64 m1, .slice a1 n1 c1, .slice a2 n2 c2] 25)) w6) := by show _ = _; rw [ht6.block Kb (blk_lt HS5.out) (by omega)]; exact HS5.out
            have HN6 : Hid (w6.heap[B]? = some (.cells #[i64 k1, i64 m1, .slice a1 n1 c1, .slice a2 n2 c2] 25)) := by show _ = _; rw [ht6.block B (blk_lt HN5.out) (by omega)]; exact HN5.out
            have HRT6 : Hid (Rd w6 (fun b => w.heap.size ≤ b ∧ b ≠ q ∧ b ≠ R) T (.slice a1 n1 c1) (.slice a2 n2 c2)) := HRT5.out.move ht6.size (fun b hb hlt => ⟨hb, ht6.block b hlt hb.2.1⟩)
            clear hq6 ht6
            go_simp
            refine hK.out _ _ (fun _ => HS6.out) ?_
            clear hK K
            refine wpL_take 8 37 (.bool false) [] rfl rfl (by kernel_rfl) (by decide) (by kernel_rfl) (by kernel_rfl) (by kernel_rfl) (fun _ _ _ h => h) HS6.out (by rfl) (fun W hW => by go_simp) ?_
            simp only [Act.put, List.setIfInBounds_toArray, List.set_cons_zero, List.set_cons_succ]
            have fr0 : w6.frozen? ⟨R, 0, none⟩ = false := blk_frozen HR6.out 0
            have fc0 : w6.cell? ⟨R, 0, none⟩ = some (i64 0) := blk_cell HR6.out 0
            have fr1 : w6.frozen? ⟨R, 1, none⟩ = false := blk_frozen HR6.out 1
            have fc1 : w6.cell? ⟨R, 1, none⟩ = some (i64 0) := blk_cell HR6.out 1
            have fr2 : w6.frozen? ⟨R, 2, none⟩ = false := blk_frozen HR6.out 2
            have fc2 : w6.cell? ⟨R, 2, none⟩ = some (.slice none 0 0) := blk_cell HR6.out 2
            have fr3 : w6.frozen? ⟨R, 3, none⟩ = false := blk_frozen HR6.out 3
            have fc3 : w6.cell? ⟨R, 3, none⟩ = some (.slice none 0 0) := blk_cell HR6.out 3
            refine wpL_one 9 rfl (by kernel_rfl) (by rfl) (fun K hK => ?_)
            go_simp
            refine hK.out _ _ (fun _ => set4_ne HS6.out (show Kb ≠ R by omega) _ _ _ _) ?_
            clear hK K
            refine wpL_one 10 rfl (by kernel_rfl) (by rfl) (fun K hK => ?_)
            go_simp
            refine hK.out _ _ (fun h => absurd rfl h) ?_
            clear hK K
            refine wpL_done (by kernel_rfl) ?_
            refine NoPanic.normal ?_
            go_wp2_with fail
            refine bodyPost_ret (v := .tuple #[tyV 3 NV (.slice none 0 0) (.slice (some ⟨B, 0, none⟩) 1 1), .bool false]) (results_cell Tryz.results84 rfl rfl (load25 (set4 HR6.out _ _ _ _))) rfl ?_
            exact ⟨3, NV, none, 0, 0, _, 1, 1, l3, by rw [HRes.out]; rfl, set4_ne HQ6.out hqR.out _ _ _ _, (by have h1 := HL3.out; have h2 := HL2.out; omega), HT6.out.set4 HRe.out _ _ _ _, fun T' r' h => by rw [HRes.out] at h; cases h⟩
          · go_simp
            refine (HTK.out X.drew HQ4.out).mono ?_
            rintro e w5 ⟨rfl, hq5, ht5⟩
            have HT5 : Hid (Touch q w w5) := HT4.out.drew.trans ht5
            have HR5 : Hid (w5.heap[R]? = some zT) := by show _ = _; rw [ht5.block R (blk_lt (w := X.drew) HR4.out) (fun e => hqR.out e.symm)]; exact HR4.out
            have HS5 : Hid ((fun W => W.heap[Kb]? = some (.cells #[i64 k1, i64 m1, .slice a1 n1 c1, .slice a2 n2 c2] 25)) w5) := by show _ = _; rw [ht5.block Kb (blk_lt (w := X.drew) HSX.out) (by omega)]; exact HSX.out
            have HRT5 : Hid (Rd w5 (fun b => w.heap.size ≤ b ∧ b ≠ q ∧ b ≠ R) T (.slice a1 n1 c1) (.slice a2 n2 c2)) := HRTX.out.move ht5.size (fun b hb hlt => ⟨hb, ht5.block b hlt hb.2.1⟩)
            have HQ5 := hid hq5
            have hX5 : X.heap.size ≤ w5.heap.size := ht5.size
            clear hq5 ht5
            go_simp
            refine hK0.out _ _ (fun _ => HS5.out) ?_
            clear hK0 K0
            refine wpL_take 8 37 (.bool false) [] rfl rfl (by kernel_rfl) (by decide) (by kernel_rfl) (by kernel_rfl) (by kernel_rfl) (fun _ _ _ h => h) HS5.out (by rfl) (fun W hW => by go_simp) ?_
            simp only [Act.put, List.setIfInBounds_toArray, List.set_cons_zero, List.set_cons_succ]
            have HS6 : Hid ((fun W => W.heap[Kb]? = some (.cells #[i64 k1, i64 m1, .slice a1 n1 c1, .slice a2 n2 c2] 25)) (w5.alloc (.cells #[i64 k1, i64 m1, .slice a1 n1 c1, .slice a2 n2 c2] 25))) := blk_alloc HS5.out _
            have HR6 : Hid ((w5.alloc (.cells #[i64 k1, i64 m1, .slice a1 n1 c1, .slice a2 n2 c2] 25)).heap[R]? = some zT) := blk_alloc HR5.out _
            have HQ6 : Hid ((w5.alloc (.cells #[i64 k1, i64 m1, .slice a1 n1 c1, .slice a2 n2 c2] 25)).heap[q]? = some (.cells #[str l3] 133)) := blk_alloc HQ5.out _
            have HT6 : Hid (Touch q w (w5.alloc (.cells #[i64 k1, i64 m1, .slice a1 n1 c1, .slice a2 n2 c2] 25))) := HT5.out.alloc _
            have HN6 : Hid ((w5.alloc (.cells #[i64 k1, i64 m1, .slice a1 n1 c1, .slice a2 n2 c2] 25)).heap[w5.heap.size]? = some (.cells #[i64 k1, i64 m1, .slice a1 n1 c1, .slice a2 n2 c2] 25)) := heap_last w5 _
            have HRT6 : Hid (Rd (w5.alloc (.cells #[i64 k1, i64 m1, .slice a1 n1 c1, .slice a2 n2 c2] 25)) (fun b => w.heap.size ≤ b ∧ b ≠ q ∧ b ≠ R) T (.slice a1 n1 c1) (.slice a2 n2 c2)) := HRT5.out.move (by simp) (fun b hb hlt => ⟨hb, Below.heap_alloc _ _ _ hlt⟩)
            refine wpL_one 2 rfl (by kernel_rfl) (by rfl) (fun K hK => ?_)
            go_simp
            refine hK.out _ _ (fun _ => HS6.out) ?_
            clear hK K
            obtain ⟨B, hB⟩ : ∃ B, B = w5.heap.size := ⟨_, rfl⟩
            have hBlo : X.heap.size ≤ B := by rw [hB]; exact hX5
            rw [← hB] at HN6 ⊢
            clear hB
            generalize (w5.alloc (.cells #[i64 k1, i64 m1, .slice a1 n1 c1, .slice a2 n2 c2] 25)) = w6 at *
            refine wpL_take 3 32 (.agg #[i64 3, i64 NV, .slice none 0 0, .slice (some ⟨B, 0, none⟩) 1 1]) [] rfl rfl (by kernel_rfl) (by decide) (by kernel_rfl) (by kernel_rfl) (by kernel_rfl) (fun _ _ _ h => h) HS6.out (by rfl) (fun W hW => by go_simp) ?_
            simp only [Act.put, List.setIfInBounds_toArray, List.set_cons_zero, List.set_cons_succ]
            have fr0 : w6.frozen? ⟨R, 0, none⟩ = false := blk_frozen HR6.out 0
            have fc0 : w6.cell? ⟨R, 0, none⟩ = some (i64 0) := blk_cell HR6.out 0
            have fr1 : w6.frozen? ⟨R, 1, none⟩ = false := blk_frozen HR6.out 1
            have fc1 : w6.cell? ⟨R, 1, none⟩ = some (i64 0) := blk_cell HR6.out 1
            have fr2 : w6.frozen? ⟨R, 2, none⟩ = false := blk_frozen HR6.out 2
            have fc2 : w6.cell? ⟨R, 2, none⟩ = some (.slice none 0 0) := blk_cell HR6.out 2
            have fr3 : w6.frozen? ⟨R, 3, none⟩ = false := blk_frozen HR6.out 3
            have fc3 : w6.cell? ⟨R, 3, none⟩ = some (.slice none 0 0) := blk_cell HR6.out 3
            refine wpL_one 9 rfl (by kernel_rfl) (by rfl) (fun K hK => ?_)
            go_simp
            refine hK.out _ _ (fun _ => set4_ne HS6.out (show Kb ≠ R by omega) _ _ _ _) ?_
            clear hK K
            refine wpL_one 10 rfl (by kernel_rfl) (by rfl) (fun K hK => ?_)
            go_simp
            refine hK.out _ _ (fun h => absurd rfl h) ?_
            clear hK K
            refine wpL_done (by kernel_rfl) ?_
            refine NoPanic.normal ?_
            go_wp2_with fail
            refine bodyPost_ret (v := .tuple #[tyV 3 NV (.slice none 0 0) (.slice (some ⟨B, 0, none⟩) 1 1), .bool false]) (results_cell Tryz.results84 rfl rfl (load25 (set4 HR6.out _ _ _ _))) rfl ?_
            exact ⟨3, NV, none, 0, 0, _, 1, 1, l3, by rw [HRes.out]; rfl, set4_ne HQ6.out hqR.out _ _ _ _, (by have h1 := HL3.out; have h2 := HL2.out; omega), HT6.out.set4 HRe.out _ _ _ _, fun T' r' h => by rw [HRes.out] at h; cases h⟩
    · skip
      go_wp2_with fail
      refine (take_miss w1 q 40 l1 (fun r e => hp ⟨r, e⟩) HQ1.out).mono ?_
      rintro e w2 ⟨rfl, hq2, ht2⟩
      have HQ2 := hid hq2
      have HT2 : Hid (Touch q w w2) := HT1.out.trans ht2
      have HR2 : Hid (w2.heap[R]? = some zT) := by show _ = _; rw [ht2.block R (blk_lt HR1.out) (fun e => hqR.out e.symm)]; exact HR1.out
      have HRes : Hid (res = none) := by
        show _ = _
        rw [HRes0.out]
        unfold listP
        rw [HNS2.out]
        split
        · rename_i heq
          cases heq
          exact absurd ⟨_, rfl⟩ hp
        · rfl
      clear hq2 ht2 fr0 fr1 fr2 fr3 fc0 fc1 fc2 fc3
      have fr0 : w2.frozen? ⟨R, 0, none⟩ = false := blk_frozen HR2.out 0
      have fc0 : w2.cell? ⟨R, 0, none⟩ = some (i64 0) := blk_cell HR2.out 0
      have fr1 : w2.frozen? ⟨R, 1, none⟩ = false := blk_frozen HR2.out 1
      have fc1 : w2.cell? ⟨R, 1, none⟩ = some (i64 0) := blk_cell HR2.out 1
      have fr2 : w2.frozen? ⟨R, 2, none⟩ = false := blk_frozen HR2.out 2
      have fc2 : w2.cell? ⟨R, 2, none⟩ = some (.slice none 0 0) := blk_cell HR2.out 2
      have fr3 : w2.frozen? ⟨R, 3, none⟩ = false := blk_frozen HR2.out 3
      have fc3 : w2.cell? ⟨R, 3, none⟩ = some (.slice none 0 0) := blk_cell HR2.out 3
      go_wp2_with fail
      refine bodyPost_ret (v := .tuple #[tyV 0 0 (.slice none 0 0) (.slice none 0 0), .bool false]) (results_cell Tryz.results84 rfl rfl (load25 (set4 HR2.out _ _ _ _))) rfl ?_
      exact ⟨0, 0, none, 0, 0, none, 0, 0, _, by rw [HRes.out]; rfl, set4_ne HQ2.out hqR.out _ _ _ _, HLn.out, HT2.out.set4 HRe.out _ _ _ _, fun T r h => by rw [HRes.out] at h; cases h⟩
end Go.Proofs.YtihbbgcpdgnhoaaGreatDoor
