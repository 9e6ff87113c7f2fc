/- quota.Book's Open, where it does not go wrong at once: its contract; no statement is proved in this text. -/
import Derived.Test.YtnknhencobhjdaaQtOpen
namespace Go.Proofs.Ytnknhencobhjdaa.Qt
open Go.ChangeShapes Go.WideShapes Go.ChangeAt Go.RowKit Go.Deep
attribute [local go_sem ↓] Go.wp_at_zero Go.wp_at_succ

theorem badB_pos {env : Int} {q : T} (h : badB env q = false) : Pos q ∧ 1 ≤ env ∧ env ≤ 3 := by
  unfold badB outB T.l at h
  simp at h
  unfold Pos
  omega
/-- At a step of a region that draws: an append whose run is known. -/
theorem step_app_run {P : Program} {w : World} {ops : Array Oper} {o : Oper} {a : Act} {K : Act → World → Prop} {Q : Exit → Act → World → Prop} {E : Prop} (hgd : o.guard = none) (s x : Operand) (t : TypeId)
    (ho : o.op = .call { callee := .builtin .append, args := #[s, x], argTypes := #[t, t] }) (v1 v2 : Value) (hs : a.eval s = v1) (hx : a.eval x = v2) (ty : TypeId) (hty : o.type = ty) (r : Value) (w' : World)
    (hr : (Builtin.append_ #[t, t] ty #[v1, v2]).run P w = .ok r w') (h : K (a.put o.dst r) w') : if Region.wanted o (yielded ops a.tmps) = true then Oper.wp P o a w K Q else E := by
  have hw : Region.wanted o (yielded ops a.tmps) = true := by simp [Region.wanted, hgd]
  rw [if_pos hw]
  unfold Oper.wp execOp
  simp only [ho, resolve, invoke, builtin, Sem.run_bind, Sem.run_pure, Result.andThen_ok, List.map_toArray, List.map_cons, List.map_nil, hs, hx, hty, hr]
  exact h
theorem open_end {w w5 : World} {base b : Nat} {t q : T} {s : St} (h : Bk w base b t s) (hB : Below w.heap.size w w5) (k : Nat) (hk : k < 3) (hW : ∀ p, Wf t (upd s k (some ⟨p, q, zT⟩))) :
    Bk ((w5.setCell ⟨b, 3 + k, none⟩ (.pointer (some ⟨w5.heap.size, 0, none⟩))).alloc (pgO q zT)).drew base b t (upd s k (some ⟨w5.heap.size, q, zT⟩)) ∧ Fr base [118, 141] w ((w5.setCell ⟨b, 3 + k, none⟩ (.pointer (some ⟨w5.heap.size, 0, none⟩))).alloc (pgO q zT)).drew := by
  have h5 := h.below hB
  have hlo5 : base ≤ w5.heap.size := by have := blk_lt h5.book; have := h.lo; omega
  have hBa : Below w5.heap.size w5 (w5.alloc (pgO q zT)) := (Below.refl _ _).alloc (Nat.le_refl _) _
  have hbl := blk_lt h5.book
  obtain ⟨S, hS⟩ : ∃ S, S = w5.setCell ⟨b, 3 + k, none⟩ (.pointer (some ⟨w5.heap.size, 0, none⟩)) := ⟨_, rfl⟩
  have hSz : S.heap.size = w5.heap.size := by rw [hS]; simp
  have ht : Touch b (w5.alloc (pgO q zT)) (S.alloc (pgO q zT)).drew := by
    refine ⟨by rw [hS]; rfl, by rw [hS]; rfl, by rw [hS]; rfl, by simp [hSz], fun i hi hne => ?_⟩
    show (S.alloc (pgO q zT)).heap[i]? = _
    have hi' : i < w5.heap.size + 1 := by simpa using hi
    by_cases hlt : i < w5.heap.size
    · rw [Below.heap_alloc _ _ _ (by omega), Below.heap_alloc _ _ _ hlt, hS, heap_setCell_other _ _ _ _ hne]
    · obtain rfl : i = w5.heap.size := by omega
      rw [heap_last w5, ← hSz, heap_last S]
  have hbk : (S.alloc (pgO q zT)).drew.heap[b]? = some (bkO t (upd s k (some ⟨w5.heap.size, q, zT⟩))) := by
    show (S.alloc (pgO q zT)).heap[b]? = _
    rw [Below.heap_alloc _ _ _ (by omega), hS, heap_setCell_same w5 b (3 + k) _ 118 _ h5.book]
    obtain rfl | rfl | rfl : k = 0 ∨ k = 1 ∨ k = 2 := by omega
    all_goals rfl
  have hen := (h5.below hBa).enter (w' := (S.alloc (pgO q zT)).drew) (e := k) q w5.heap.size (heap_last w5 _) hlo5 (fun i y hy he => by have := blk_lt (h5.page i y hy).1; omega) (hW _) ht hbk
  rw [hS] at hen
  exact ⟨hen.1, (Fr.of_below _ hB (by have := blk_lt h.book; have := h.lo; omega)).trans ((Fr.of_below _ hBa hlo5).trans hen.2)⟩
/-- The append of the new quota. -/
theorem app_run {V : World} {B : Nat} {v : Value} {ts : List T} (ho : V.ownsRow B 22 3 v ts.length (tcells ts)) (hl : ts.length ≤ 3) (hB : B ≤ V.heap.size) (q : T) :
    ∃ g cap w4, (Builtin.append_ #[138, 138] 138 #[v, .slice (some ⟨V.heap.size, 0, none⟩) 1 1]).run Try.prog (V.alloc (triO q)).drew = .ok (.slice (some ⟨g, 0, none⟩) (ts.length + 1) cap) w4 ∧ TSl w4 (some ⟨g, 0, none⟩) (ts ++ [q]) ∧ Below B V w4 := by
  obtain ⟨i22, hi, hz, hs, hby⟩ := info_parts info22x
  obtain ⟨g, cap, w4, hr, ho4, hg4, _, _⟩ := run_append_lies (P := Try.prog) (V.alloc (triO q)).drew 138 138 B 22 i22 (.agg #[i64 0, i64 0, i64 0]) 3 24 under61 hi hz hs hby rfl (by omega) v ts.length (tcells ts) (show (V.alloc (triO q)).drew.ownsRow B 22 3 v ts.length (tcells ts) from ho.alloc _) ⟨V.heap.size, 0, none⟩ 1 1 (tcells [q]) rfl (fun j u hu => by rw [World.cell?_drew]; exact new_tri V q j u hu) (tcells_one [q]) (by omega) (by unfold maxLen; omega) (by omega) (by simp; omega) _ rfl
  refine ⟨g, cap, w4, hr, ?_, ?_⟩
  · rw [← tcells_app] at ho4
    have : w4.ownsRow B 22 3 (.slice (some ⟨g, 0, none⟩) (ts.length + 1) cap) (ts ++ [q]).length (tcells (ts ++ [q])) := by rw [List.length_append]; exact ho4
    obtain ⟨ao, cap', he, ht⟩ := own_tsl this
    simp only [Value.slice.injEq] at he
    rw [he.1]
    exact ht
  · have h1 : Below B V (V.alloc (triO q)).drew := Below.drew ((Below.refl _ _).alloc hB _)
    exact h1.trans (below_grown hg4 (by simp; omega) (fun k hk => (ho.lt k hk).1))

set_option maxRecDepth 100000 in
set_option maxHeartbeats 4000000 in
theorem open_in {w : World} {base b : Nat} {t : T} {s : St} (h : Bk w base b t s) (env : Int) (q : T) (hbad : badB env q = false) (hx : at_ s env = none) (hr : roomB t s q = true) :
    Calls Try.prog 53 #[.pointer (some ⟨b, 0, none⟩), i64 env, q.v] w fun e w' => e = .returned (i64 0) ∧ ∃ p, Bk w' base b t (upd s (env - 1).toNat (some ⟨p, q, zT⟩)) ∧ Fr base [118, 141] w w' := by
  have HB : Hid (∀ o o', Below w.heap.size w ((w.alloc o).alloc o')) := fun o o' => ((Below.refl _ _).alloc (Nat.le_refl _) o).alloc (by simp) o'
  have HK : Hid (Bk w base b t s) := h
  have HX : Hid (at_ s env = none) := hx
  obtain ⟨hpos, e1, e2⟩ := badB_pos hbad
  have hs0 : s (env - 1).toNat = none := by unfold at_ at hx; rw [if_pos ⟨e1, e2⟩] at hx; exact hx
  have HW : Hid (∀ p, Wf t (upd s (env - 1).toNat (some ⟨p, q, zT⟩))) := fun p => h.wf.enter (by omega) hs0 hpos hr p
  have HF : Hid (fits t (told s (·.q) 3 ++ [q]) = true) := (fits_room h.wf hpos).trans hr
  have HL : Hid ((told s (·.q) 3).length ≤ 3) := told_le s _ 3
  have HP : Hid (∀ u ∈ told s (·.q) 3 ++ [q], 0 ≤ u.a ∧ 0 ≤ u.b ∧ 0 ≤ u.c) := fun u hu => by
    rw [List.mem_append] at hu
    rcases hu with hu | hu
    · exact told_pos h.wf u hu
    · simp at hu; subst hu; exact hpos
  have HT : Hid (Le t ⟨64, 64, 64⟩) := h.wf.tot
  have hbl := blk_lt h.book
  have hlo := h.lo
  unfold badB at hbad
  rw [Bool.or_eq_false_iff] at hbad
  have H1 : Hid (outB 1 3 [env] = false) := hbad.1
  have H2 : Hid (outB 0 9223372036854775807 q.l = false) := hbad.2
  have HUP : Hid (∀ U : World, U.heap[b]? = some (bkO t s) → U.heap[w.heap.size]? = some (triO q) → (U.cell? ⟨b, 0, none⟩ = some (i64 t.a) ∧ U.cell? ⟨b, 1, none⟩ = some (i64 t.b) ∧ U.cell? ⟨b, 2, none⟩ = some (i64 t.c) ∧ U.cell? ⟨w.heap.size, 0, none⟩ = some (i64 q.a) ∧ U.cell? ⟨w.heap.size, 1, none⟩ = some (i64 q.b) ∧ U.cell? ⟨w.heap.size, 2, none⟩ = some (i64 q.c))) := fun U hU hV => ⟨blk_cell hU 0, blk_cell hU 1, blk_cell hU 2, blk_cell hV 0, blk_cell hV 1, blk_cell hV 2⟩
  clear hbad h hx hr hpos hs0
  go_enter Try.func53, Try.ntmps53
  go_wp2_with fail
  refine (outside_one _ 1 3 env _ (heap_last2 w _ _)).mono ?_
  rintro e w1 ⟨rfl, rfl⟩
  rw [H1.out]
  go_wp2_with fail
  refine (outside_tri _ 0 9223372036854775807 q _ (blk_alloc (heap_last w _) _)).mono ?_
  rintro e w1 ⟨rfl, rfl⟩
  rw [H2.out]
  go_wp2_with fail
  refine (pageOf_ok (HK.out.below (HB.out _ _)) env).mono ?_
  rintro e w2 ⟨rfl, hb2⟩
  rw [HX.out]
  have HQ2 : Hid (w2.heap[w.heap.size]? = some (triO q)) := blk_below (blk_alloc (heap_last w _) _) hb2
  have HB2 : Hid (Below w.heap.size w w2) := (HB.out _ _).trans (hb2.mono (by simp; omega))
  clear hb2
  unfold ptr
  go_wp2_with fail
  refine (all30_ok (HK.out.below HB2.out)).mono ?_
  rintro e V ⟨v, rfl, ho, hb3⟩
  have hV2 : w.heap.size < w2.heap.size := blk_lt HQ2.out
  have HKV : Hid (Bk V base b t s) := (HK.out.below HB2.out).below hb3
  have HQV : Hid (V.heap[w.heap.size]? = some (triO q)) := blk_below HQ2.out hb3
  have HBV : Hid (Below w.heap.size w V) := HB2.out.trans (hb3.mono HB2.out.size)
  have hs3 := hb3.size
  obtain ⟨ao, cap, rfl, _⟩ := own_tsl ho
  obtain ⟨g, cap4, w4, hrun, hts, hb4⟩ := app_run ho HL.out hs3 q
  have hb4s := hb4.size
  have HTS : Hid (TSl w4 (some ⟨g, 0, none⟩) (told s (·.q) 3 ++ [q])) := hts
  have HK4 : Hid (w4.heap[b]? = some (bkO t s)) := by rw [Hid, hb4.block b (by have := HB2.out.size; omega)]; exact HKV.out.book
  have HQ4 : Hid (w4.heap[w.heap.size]? = some (triO q)) := by rw [Hid, hb4.block _ hV2]; exact HQV.out
  have HB4 : Hid (Below w2.heap.size V w4) := hb4
  have HN : Hid ((told s (·.q) 3 ++ [q]).length = (told s (·.q) 3).length + 1) := by simp [Hid]
  generalize (told s (·.q) 3).length = n at *
  have HRUN : Hid ((Builtin.append_ #[138, 138] 138 #[.slice ao n cap, .slice (some ⟨V.heap.size, 0, none⟩) 1 1]).run Try.prog (V.alloc (triO q)).drew = .ok (.slice (some ⟨g, 0, none⟩) (n + 1) cap4) w4) := hrun
  clear ho hb3 hb4 hts hrun
  obtain ⟨v0, v1, v2, v3, v4, v5⟩ := HUP.out V HKV.out.book HQV.out
  go_wp2_with fail
  go_region_held3 (fun U => U.cell? ⟨b, 0, none⟩ = some (i64 t.a) ∧ U.cell? ⟨b, 1, none⟩ = some (i64 t.b) ∧ U.cell? ⟨b, 2, none⟩ = some (i64 t.c) ∧ U.cell? ⟨w.heap.size, 0, none⟩ = some (i64 q.a) ∧ U.cell? ⟨w.heap.size, 1, none⟩ = some (i64 q.b) ∧ U.cell? ⟨w.heap.size, 2, none⟩ = some (i64 q.c)) (first | exact HUP.out _ HKV.out.book HQV.out | exact HUP.out _ HK4.out HQ4.out | exact HUP.out _ (blk_alloc HKV.out.book _) (blk_alloc HQV.out _) | exact HUP.out _ HK5.out HQ5.out)
    ((first | (refine step_app_run ?_ (.tmp 27) (.tmp 29) 138 ?_ _ _ ?_ ?_ 138 ?_ _ _ HRUN.out ?_; rfl; rfl; rfl; rfl; rfl) | (go_at_call 79; refine (by have := fit_ok w4 t (some ⟨g, 0, none⟩) cap4 (told s (·.q) 3 ++ [q]) HTS.out (by have := HN.out; have := HL.out; omega) HT.out HP.out; rw [HN.out, HF.out] at this; exact this : Calls Try.prog 79 #[t.v, .slice (some ⟨g, 0, none⟩) (n + 1) cap4] w4 fun e w' => e = .returned (.bool true) ∧ Below w4.heap.size w4 w').mono ?_; rintro e w5 ⟨rfl, hb5⟩; have HK5 : Hid (w5.heap[b]? = some (bkO t s)) := blk_below HK4.out hb5; have HQ5 : Hid (w5.heap[w.heap.size]? = some (triO q)) := blk_below HQ4.out hb5; have HB5 : Hid (Below w2.heap.size V w5) := HB4.out.trans (hb5.mono HB4.out.size |>.mono (by have := HB4.out.size; omega)); clear hb5)))
  all_goals go_wp2_with fail
  have hb5s := HB5.out.size
  have hq5 := blk_lt HQ5.out
  have hb5 := blk_lt HK5.out
  obtain ⟨z0, z1, z2, z3, z4, z5⟩ := HUP.out w5 HK5.out HQ5.out
  have fz : ∀ j, w5.frozen? ⟨b, j, none⟩ = false := blk_frozen HK5.out
  have g0 : w5.cell? ⟨b, 3, none⟩ = some (ptr (s 0)) := blk_cell HK5.out 3
  have g1 : w5.cell? ⟨b, 4, none⟩ = some (ptr (s 1)) := blk_cell HK5.out 4
  have g2 : w5.cell? ⟨b, 5, none⟩ = some (ptr (s 2)) := blk_cell HK5.out 5
  generalize ptr (s 0) = P0 at g0
  generalize ptr (s 1) = P1 at g1
  generalize ptr (s 2) = P2 at g2
  clear v0 v1 v2 v3 v4 v5
  obtain rfl | rfl | rfl : env = 1 ∨ env = 2 ∨ env = 3 := by omega
  · go_region
    all_goals go_wp2_with fail
    all_goals go_ret
    all_goals exact ⟨rfl, _, open_end HK.out (HBV.out.trans (HB5.out.mono HB2.out.size)) 0 (by omega) HW.out⟩
  · go_region
    all_goals go_wp2_with fail
    all_goals go_ret
    all_goals exact ⟨rfl, _, open_end HK.out (HBV.out.trans (HB5.out.mono HB2.out.size)) 1 (by omega) HW.out⟩
  · go_region
    all_goals go_wp2_with fail
    all_goals go_ret
    all_goals exact ⟨rfl, _, open_end HK.out (HBV.out.trans (HB5.out.mono HB2.out.size)) 2 (by omega) HW.out⟩
set_option maxRecDepth 100000 in
set_option maxHeartbeats 4000000 in
theorem open_full {w : World} {base b : Nat} {t : T} {s : St} (h : Bk w base b t s) (env : Int) (q : T) (hbad : badB env q = false) (hx : at_ s env = none) (hr : roomB t s q = false) :
    Calls Try.prog 53 #[.pointer (some ⟨b, 0, none⟩), i64 env, q.v] w fun e w' => e = .returned (i64 5) ∧ Below w.heap.size w w' := by
  have HB : Hid (∀ o o', Below w.heap.size w ((w.alloc o).alloc o')) := fun o o' => ((Below.refl _ _).alloc (Nat.le_refl _) o).alloc (by simp) o'
  have HK : Hid (Bk w base b t s) := h
  have HX : Hid (at_ s env = none) := hx
  obtain ⟨hpos, e1, e2⟩ := badB_pos hbad
  have HF : Hid (fits t (told s (·.q) 3 ++ [q]) = false) := (fits_room h.wf hpos).trans hr
  have HL : Hid ((told s (·.q) 3).length ≤ 3) := told_le s _ 3
  have HP : Hid (∀ u ∈ told s (·.q) 3 ++ [q], 0 ≤ u.a ∧ 0 ≤ u.b ∧ 0 ≤ u.c) := fun u hu => by
    rw [List.mem_append] at hu
    rcases hu with hu | hu
    · exact told_pos h.wf u hu
    · simp at hu; subst hu; exact hpos
  have HT : Hid (Le t ⟨64, 64, 64⟩) := h.wf.tot
  have hbl := blk_lt h.book
  unfold badB at hbad
  rw [Bool.or_eq_false_iff] at hbad
  have H1 : Hid (outB 1 3 [env] = false) := hbad.1
  have H2 : Hid (outB 0 9223372036854775807 q.l = false) := hbad.2
  have HUP : Hid (∀ U : World, U.heap[b]? = some (bkO t s) → U.heap[w.heap.size]? = some (triO q) → (U.cell? ⟨b, 0, none⟩ = some (i64 t.a) ∧ U.cell? ⟨b, 1, none⟩ = some (i64 t.b) ∧ U.cell? ⟨b, 2, none⟩ = some (i64 t.c) ∧ U.cell? ⟨w.heap.size, 0, none⟩ = some (i64 q.a) ∧ U.cell? ⟨w.heap.size, 1, none⟩ = some (i64 q.b) ∧ U.cell? ⟨w.heap.size, 2, none⟩ = some (i64 q.c))) := fun U hU hV => ⟨blk_cell hU 0, blk_cell hU 1, blk_cell hU 2, blk_cell hV 0, blk_cell hV 1, blk_cell hV 2⟩
  clear hbad h hx hr hpos
  go_enter Try.func53, Try.ntmps53
  go_wp2_with fail
  refine (outside_one _ 1 3 env _ (heap_last2 w _ _)).mono ?_
  rintro e w1 ⟨rfl, rfl⟩
  rw [H1.out]
  go_wp2_with fail
  refine (outside_tri _ 0 9223372036854775807 q _ (blk_alloc (heap_last w _) _)).mono ?_
  rintro e w1 ⟨rfl, rfl⟩
  rw [H2.out]
  go_wp2_with fail
  refine (pageOf_ok (HK.out.below (HB.out _ _)) env).mono ?_
  rintro e w2 ⟨rfl, hb2⟩
  rw [HX.out]
  have HQ2 : Hid (w2.heap[w.heap.size]? = some (triO q)) := blk_below (blk_alloc (heap_last w _) _) hb2
  have HB2 : Hid (Below w.heap.size w w2) := (HB.out _ _).trans (hb2.mono (by simp; omega))
  clear hb2
  unfold ptr
  go_wp2_with fail
  refine (all30_ok (HK.out.below HB2.out)).mono ?_
  rintro e V ⟨v, rfl, ho, hb3⟩
  have hV2 : w.heap.size < w2.heap.size := blk_lt HQ2.out
  have HKV : Hid (Bk V base b t s) := (HK.out.below HB2.out).below hb3
  have HQV : Hid (V.heap[w.heap.size]? = some (triO q)) := blk_below HQ2.out hb3
  have HBV : Hid (Below w.heap.size w V) := HB2.out.trans (hb3.mono HB2.out.size)
  have hs3 := hb3.size
  obtain ⟨ao, cap, rfl, _⟩ := own_tsl ho
  obtain ⟨g, cap4, w4, hrun, hts, hb4⟩ := app_run ho HL.out hs3 q
  have hb4s := hb4.size
  have HTS : Hid (TSl w4 (some ⟨g, 0, none⟩) (told s (·.q) 3 ++ [q])) := hts
  have HK4 : Hid (w4.heap[b]? = some (bkO t s)) := by rw [Hid, hb4.block b (by have := HB2.out.size; omega)]; exact HKV.out.book
  have HQ4 : Hid (w4.heap[w.heap.size]? = some (triO q)) := by rw [Hid, hb4.block _ hV2]; exact HQV.out
  have HB4 : Hid (Below w2.heap.size V w4) := hb4
  have HN : Hid ((told s (·.q) 3 ++ [q]).length = (told s (·.q) 3).length + 1) := by simp [Hid]
  generalize (told s (·.q) 3).length = n at *
  have HRUN : Hid ((Builtin.append_ #[138, 138] 138 #[.slice ao n cap, .slice (some ⟨V.heap.size, 0, none⟩) 1 1]).run Try.prog (V.alloc (triO q)).drew = .ok (.slice (some ⟨g, 0, none⟩) (n + 1) cap4) w4) := hrun
  clear ho hb3 hb4 hts hrun
  obtain ⟨v0, v1, v2, v3, v4, v5⟩ := HUP.out V HKV.out.book HQV.out
  go_wp2_with fail
  go_region_held3 (fun U => U.cell? ⟨b, 0, none⟩ = some (i64 t.a) ∧ U.cell? ⟨b, 1, none⟩ = some (i64 t.b) ∧ U.cell? ⟨b, 2, none⟩ = some (i64 t.c) ∧ U.cell? ⟨w.heap.size, 0, none⟩ = some (i64 q.a) ∧ U.cell? ⟨w.heap.size, 1, none⟩ = some (i64 q.b) ∧ U.cell? ⟨w.heap.size, 2, none⟩ = some (i64 q.c)) (first | exact HUP.out _ HKV.out.book HQV.out | exact HUP.out _ HK4.out HQ4.out | exact HUP.out _ (blk_alloc HKV.out.book _) (blk_alloc HQV.out _) | exact HUP.out _ HK5.out HQ5.out)
    ((first | (refine step_app_run ?_ (.tmp 27) (.tmp 29) 138 ?_ _ _ ?_ ?_ 138 ?_ _ _ HRUN.out ?_; rfl; rfl; rfl; rfl; rfl) | (go_at_call 79; refine (by have := fit_ok w4 t (some ⟨g, 0, none⟩) cap4 (told s (·.q) 3 ++ [q]) HTS.out (by have := HN.out; have := HL.out; omega) HT.out HP.out; rw [HN.out, HF.out] at this; exact this : Calls Try.prog 79 #[t.v, .slice (some ⟨g, 0, none⟩) (n + 1) cap4] w4 fun e w' => e = .returned (.bool false) ∧ Below w4.heap.size w4 w').mono ?_; rintro e w5 ⟨rfl, hb5⟩; have HK5 : Hid (w5.heap[b]? = some (bkO t s)) := blk_below HK4.out hb5; have HQ5 : Hid (w5.heap[w.heap.size]? = some (triO q)) := blk_below HQ4.out hb5; have HB5 : Hid (Below w2.heap.size V w5) := HB4.out.trans (hb5.mono HB4.out.size |>.mono (by have := HB4.out.size; omega)); clear hb5)))
  all_goals go_wp2_with fail
  go_ret
  exact ⟨rfl, HBV.out.trans (HB5.out.mono HB2.out.size)⟩

def opE (t : T) (s : St) (env : Int) (q : T) : Int :=
  if badB env q = true then 1 else match at_ s env with
    | some _ => 8
    | none => if roomB t s q = true then 0 else 5
/-- What becomes of the pages by Open. -/
def OpS (t : T) (s s' : St) (env : Int) (q : T) : Prop :=
  if opE t s env q = 0 then ∃ p, s' = upd s (env - 1).toNat (some ⟨p, q, zT⟩) else s' = s
theorem open_ok {w : World} {base b : Nat} {t : T} {s : St} (h : Bk w base b t s) (env : Int) (q : T) :
    Calls Try.prog 53 #[.pointer (some ⟨b, 0, none⟩), i64 env, q.v] w fun e w' => e = .returned (i64 (opE t s env q)) ∧ ∃ s', OpS t s s' env q ∧ Bk w' base b t s' ∧ Fr base [118, 141] w w' := by
  have hlo : base ≤ w.heap.size := by have := blk_lt h.book; have := h.lo; omega
  have fin : ∀ (c : Int), opE t s env q = c → c ≠ 0 → Calls Try.prog 53 #[.pointer (some ⟨b, 0, none⟩), i64 env, q.v] w (fun e w' => e = .returned (i64 c) ∧ Below w.heap.size w w') → Calls Try.prog 53 #[.pointer (some ⟨b, 0, none⟩), i64 env, q.v] w (fun e w' => e = .returned (i64 (opE t s env q)) ∧ ∃ s', OpS t s s' env q ∧ Bk w' base b t s' ∧ Fr base [118, 141] w w') := fun c hc h0 hcall =>
    hcall.mono fun e w' ⟨he, hb⟩ => ⟨by rw [he, hc], s, by unfold OpS; rw [hc, if_neg h0], h.below hb, Fr.of_below _ hb hlo⟩
  by_cases hbad : badB env q = true
  · exact fin 1 (by unfold opE; rw [if_pos hbad]) (by decide) (open_bad w _ env q hbad)
  · have hbad' : badB env q = false := by simpa using hbad
    cases hx : at_ s env with
    | some x => exact fin 8 (by unfold opE; rw [if_neg hbad, hx]) (by decide) (open_same h env q hbad' x hx)
    | none =>
      by_cases hr : roomB t s q = true
      · have h0 : opE t s env q = 0 := by unfold opE; rw [if_neg hbad, hx]; simp only; rw [if_pos hr]
        refine (open_in h env q hbad' hx hr).mono fun e w' ⟨he, p, hb, hf⟩ => ⟨by rw [he, h0], _, ?_, hb, hf⟩
        unfold OpS
        rw [if_pos h0]
        exact ⟨p, rfl⟩
      · exact fin 5 (by unfold opE; rw [if_neg hbad, hx]; simp only; rw [if_neg hr]) (by decide) (open_full h env q hbad' hx (by simpa using hr))
end Go.Proofs.Ytnknhencobhjdaa.Qt
