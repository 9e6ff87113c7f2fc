/- Binds: Bind, Open, Spare; no statement is proved in this text. -/
import Derived.Test.YtnknhencobhjdaaBl
namespace Go.Proofs.Ytnknhencobhjdaa
open Go.ChangeShapes Go.WideShapes Go.ChangeAt Go.RowKit Go.Deep Go.ChangeMaps Go.MapKept
open Go.Proofs.Ytnknhencobhjdaa.Cp (pq hid below_one hO cO zC looks_nil)
open Go.Proofs.Ytnknhencobhjdaa.Qt (zT badB)

set_option maxRecDepth 100000 in
set_option maxHeartbeats 1600000 in
theorem bind_ok {w : World} {base b : Nat} {x : Bx} {t : Qt.T} {s : Qt.St} {T : List Cp.Pl} {L : Ls} {R : Nat → List Hn} (h : Bd w base b x t s T L R) (hL : L.length ≤ 1000) (env kind : Int) (htk : Qt.tkE (Qt.at_ s env) kind 1 = 0) (hc : cnt L env < 42) (k : Nat) (hk : k < 3) (hkind : kind = (k : Int) + 1) (i : Nat) (hi : (R k)[i]? = some (0, 0)) (hno : ∀ j, j < i → (R k)[j]? ≠ some (0, 0)) (hcap : Cp.rightB ⟨env, kind, i, 3⟩ = true)
    (q : Nat) (p : Cp.Pl) (hp : T[q]? = some p) (hf : p.c = zC) (hqn : ∀ j r, j < q → T[j]? = some r → r.c ≠ zC) (hg0 : 0 ≤ p.gen) (hg1 : p.gen ≤ 1000000000) (hnew : ∀ r ∈ L, r.1 ≠ ((q : Int), p.gen + 1)) :
    Calls Try.prog 20 #[pq b, i64 env, i64 kind] w fun e w' => e = .returned (.tuple #[i64 i, .agg #[i64 (q : Nat), i64 (p.gen + 1)], i64 0]) ∧ Bd w' base b x t (Qt.tkS s env kind 1) (T.set q ⟨⟨env, kind, i, 3⟩, -1, p.gen + 1⟩) (L ++ [(((q : Int), p.gen + 1), (env, env))]) (rset R k i ((q : Int), p.gen + 1)) ∧ Bf base x w w' := by
  have HF : Hid (base ≤ w.heap.size) := h.lo'
  have hgs : ∀ j, j < 3 → x.g j < w.heap.size := fun j hj => blk_lt (h.rt j hj).1
  have HD0 : Hid (Bd (w.alloc (.cells #[i64 0, i64 0] 43)) base b x t s T L R) := h.below (below_one w _)
  have HB0 : Hid (Below w.heap.size w (w.alloc (.cells #[i64 0, i64 0] 43))) := below_one w _
  have HQ0 : Hid ((w.alloc (.cells #[i64 0, i64 0] 43)).heap[w.heap.size]? = some (hO 0 0)) := heap_last w _
  have HT : Hid (Qt.tkE (Qt.at_ s env) kind 1 = 0) := htk
  have HBl : Hid (∀ W, Bd W base b x t (Qt.tkS s env kind 1) T L R → Calls Try.prog 58 #[pq b, i64 env, i64 kind] W fun e w' => e = .returned (.tuple #[i64 i, .agg #[i64 (q : Nat), i64 (p.gen + 1)], i64 0]) ∧ Bd w' base b x t (Qt.tkS s env kind 1) (T.set q ⟨⟨env, kind, i, 3⟩, -1, p.gen + 1⟩) (L ++ [(((q : Int), p.gen + 1), (env, env))]) (rset R k i ((q : Int), p.gen + 1)) ∧ Bf base x W w') := fun W hW => bindLowest_ok hW hL env kind hc k hk hkind i hi hno hcap q p hp hf hqn hg0 hg1 hnew
  clear h hL htk hc hk hkind hi hno hcap hp hf hqn hg0 hg1 hnew
  generalize T.set q ⟨⟨env, kind, i, 3⟩, -1, p.gen + 1⟩ = T' at *
  generalize p.gen + 1 = gn at *
  clear p
  generalize rset R k i ((q : Int), gn) = R' at *
  generalize L ++ [(((q : Int), gn), (env, env))] = L' at *
  go_enter Try.func20, Try.ntmps20
  go_upto_region 1 with fail
  generalize w.alloc (.cells #[i64 0, i64 0] 43) = W0 at *
  have o0 : W0.cell? ⟨b, 0, none⟩ = some (pq x.kb) := blk_cell HD0.out.row 0
  go_wp2_with (go_at_call 48; refine (orEmpty_ok _ b).mono ?_; rintro e w1 ⟨rfl, rfl⟩)
  rename_i w1
  refine (Qt.take_ok HD0.out.bk env kind 1 (by omega)).mono ?_
  rintro e w2 ⟨he, hbk2, hf2⟩
  rw [HT.out] at he
  subst he
  have HD2 := hid (HD0.out.book hbk2 hf2)
  have HF2 : Hid (Bf base x w w2) := (Bf.of_below HB0.out HF.out).trans (Bd.book_f hf2)
  have HQ2 : Hid (w2.heap[w.heap.size]? = some (hO 0 0)) := hf2.kept _ _ HQ0.out rfl
  clear hbk2 hf2 HD0 HB0 HQ0 o0 HT
  go_wp2_with fail
  refine (HBl.out w2 HD2.out).mono ?_
  rintro e w3 ⟨rfl, hd3, hf3⟩
  have hq3 : w3.heap[w.heap.size]? = some (hO 0 0) := hf3.kept _ _ HQ2.out (by
    have e0 := hgs 0 (by omega)
    have e1 := hgs 1 (by omega)
    have e2 := hgs 2 (by omega)
    simp only [ownB, Bool.or_eq_false_iff, beq_eq_false_iff_ne]
    refine ⟨⟨⟨⟨⟨by decide, by decide⟩, by decide⟩, by omega⟩, by omega⟩, by omega⟩)
  have HD4 : Hid (Bd (w3.alloc (.cells #[i64 (q : Nat), i64 gn] 43)) base b x t (Qt.tkS s env kind 1) T' L' R') := hd3.below (below_one w3 _)
  have HF4 : Hid (Bf base x w (w3.alloc (.cells #[i64 (q : Nat), i64 gn] 43))) := (HF2.out.trans hf3).trans (Bf.of_below (below_one w3 _) hd3.lo')
  have HQ4 : Hid ((w3.alloc (.cells #[i64 (q : Nat), i64 gn] 43)).heap[w.heap.size]? = some (hO 0 0)) := blk_alloc hq3 _
  have HZ4 : Hid ((w3.alloc (.cells #[i64 (q : Nat), i64 gn] 43)).heap[w3.heap.size]? = some (hO (q : Nat) gn)) := heap_last w3 _
  have hZ : w.heap.size < w3.heap.size := blk_lt hq3
  clear hd3 hf3 hq3 HD2 HF2 HQ2 HBl
  go_upto_region 8 with fail
  generalize w3.alloc (.cells #[i64 (q : Nat), i64 gn] 43) = w7 at *
  generalize w3.heap.size = Z at *
  have HS : Hid (Sq2 Z (hO (q : Nat) gn) Z (hO (q : Nat) gn) w7.drew) := ⟨HZ4.out, HZ4.out⟩
  refine wp_region_noPanic ?_
  refine wp_region_last (Sq2 Z (hO (q : Nat) gn) Z (hO (q : Nat) gn)) 5 (by kernel_rfl) ?_
  refine wpL_take 0 43 (i64 i) [] rfl rfl (by kernel_rfl) (by decide) (by kernel_rfl) (by kernel_rfl) (by kernel_rfl) (fun _ _ _ h => h) HS.out (by rfl) (fun W hW => by have q0 := blk_cell hW.one 0; have q1 := blk_cell hW.one 1; go_simp) ?_
  simp only [Act.put, List.setIfInBounds_toArray, List.set_cons_zero, List.set_cons_succ]
  refine wpL_take 1 44 (.agg #[i64 (q : Nat), i64 gn]) [] rfl rfl (by kernel_rfl) (by decide) (by kernel_rfl) (by kernel_rfl) (by kernel_rfl) (fun _ _ _ h => h) HS.out (by rfl) (fun W hW => by have q0 := blk_cell hW.one 0; have q1 := blk_cell hW.one 1; go_simp) ?_
  simp only [Act.put, List.setIfInBounds_toArray, List.set_cons_zero, List.set_cons_succ]
  refine wpL_take 2 45 (i64 0) [] rfl rfl (by kernel_rfl) (by decide) (by kernel_rfl) (by kernel_rfl) (by kernel_rfl) (fun _ _ _ h => h) HS.out (by rfl) (fun W hW => by have q0 := blk_cell hW.one 0; have q1 := blk_cell hW.one 1; go_simp) ?_
  simp only [Act.put, List.setIfInBounds_toArray, List.set_cons_zero, List.set_cons_succ]
  have z0 : w7.cell? ⟨w.heap.size, 0, none⟩ = some (i64 0) := blk_cell HQ4.out 0
  have z1 : w7.cell? ⟨w.heap.size, 1, none⟩ = some (i64 0) := blk_cell HQ4.out 1
  have zf : ∀ j, w7.frozen? ⟨w.heap.size, j, none⟩ = false := blk_frozen HQ4.out
  refine wpL_one 3 rfl (by kernel_rfl) (by rfl) (fun K hK => ?_)
  go_simp
  refine hK.out _ _ (fun _ => HS.out) ?_
  clear hK K
  have ht8 := touch_set2 w7 w.heap.size 0 1 (i64 (q : Nat)) (i64 gn)
  have HZ8 : Hid (((w7.setCell ⟨w.heap.size, 0, none⟩ (i64 (q : Nat))).setCell ⟨w.heap.size, 1, none⟩ (i64 gn)).heap[Z]? = some (hO (q : Nat) gn)) := (ht8.block _ (blk_lt HZ4.out) (by omega)).trans HZ4.out
  have HQ8 : Hid (((w7.setCell ⟨w.heap.size, 0, none⟩ (i64 (q : Nat))).setCell ⟨w.heap.size, 1, none⟩ (i64 gn)).heap[w.heap.size]? = some (hO (q : Nat) gn)) := Cp.set2 HQ4.out _ _
  have HD8 : Hid (Bd ((w7.setCell ⟨w.heap.size, 0, none⟩ (i64 (q : Nat))).setCell ⟨w.heap.size, 1, none⟩ (i64 gn)) base b x t (Qt.tkS s env kind 1) T' L' R') := HD4.out.box HQ4.out (fun j hj => by have := hgs j hj; omega) ht8
  have HF8 : Hid (Bf base x w ((w7.setCell ⟨w.heap.size, 0, none⟩ (i64 (q : Nat))).setCell ⟨w.heap.size, 1, none⟩ (i64 gn))) := HF4.out.box (Nat.le_refl _) HF.out ht8
  clear ht8
  refine wpL_one 4 rfl (by kernel_rfl) (by rfl) (fun K hK => ?_)
  go_simp
  refine hK.out _ _ (fun _ => ⟨HZ8.out, HZ8.out⟩) ?_
  clear hK K
  refine wpL_one 5 rfl (by kernel_rfl) (by rfl) (fun K hK => ?_)
  go_simp
  refine hK.out _ _ (fun h => absurd rfl h) ?_
  clear hK K
  refine wpL_done (by kernel_rfl) ?_
  refine NoPanic.normal ?_
  clear HS z0 z1 zf HQ4 HZ4 HD4 HF4
  generalize (w7.setCell ⟨w.heap.size, 0, none⟩ (i64 (q : Nat))).setCell ⟨w.heap.size, 1, none⟩ (i64 gn) = W8 at *
  go_wp2_with fail
  exact bodyPost_ret (results_mid Try.results20 rfl rfl rfl (Cp.load42 (W := W8.drew) HQ8.out)) rfl ⟨rfl, HD8.out.drew, HF8.out.drew⟩
set_option maxRecDepth 100000 in
set_option maxHeartbeats 1600000 in
theorem open_ok {w : World} {base b : Nat} {x : Bx} {t : Qt.T} {s : Qt.St} {T : List Cp.Pl} {L : Ls} {R : Nat → List Hn} (h : Bd w base b x t s T L R) (env q0 q1 q2 : Int) :
    Calls Try.prog 18 #[pq b, i64 env, .agg #[i64 q0, i64 q1, i64 q2]] w fun e w' => e = .returned (i64 (Qt.opE t s env ⟨q0, q1, q2⟩)) ∧ ∃ s', Qt.OpS t s s' env ⟨q0, q1, q2⟩ ∧ Bd w' base b x t s' T L R ∧ Bf base x w w' := by
  have HF : Hid (base ≤ w.heap.size) := h.lo'
  have HD0 : Hid (Bd (w.alloc (.cells #[i64 q0, i64 q1, i64 q2] 22)) base b x t s T L R) := h.below (below_one w _)
  have HB0 : Hid (Below w.heap.size w (w.alloc (.cells #[i64 q0, i64 q1, i64 q2] 22))) := below_one w _
  have HQ0 : Hid ((w.alloc (.cells #[i64 q0, i64 q1, i64 q2] 22)).heap[w.heap.size]? = some (triO ⟨q0, q1, q2⟩)) := heap_last w _
  have HO : Hid (∀ W, Qt.Bk W base x.kb t s → Calls Try.prog 53 #[pq x.kb, i64 env, .agg #[i64 q0, i64 q1, i64 q2]] W fun e w' => e = .returned (i64 (Qt.opE t s env ⟨q0, q1, q2⟩)) ∧ ∃ s', Qt.OpS t s s' env ⟨q0, q1, q2⟩ ∧ Qt.Bk w' base x.kb t s' ∧ Fr base [118, 141] W w') := fun W hW => Qt.open_ok hW env ⟨q0, q1, q2⟩
  generalize Qt.opE t s env ⟨q0, q1, q2⟩ = X at *
  clear h
  go_enter Try.func18, Try.ntmps18
  go_upto_region 1 with fail
  generalize w.alloc (.cells #[i64 q0, i64 q1, i64 q2] 22) = W0 at *
  obtain ⟨s0, hs0⟩ : ∃ s0, slV (x.g 0) (R 0).length = s0 := ⟨_, rfl⟩
  obtain ⟨s1, hs1⟩ : ∃ s1, slV (x.g 1) (R 1).length = s1 := ⟨_, rfl⟩
  obtain ⟨s2, hs2⟩ : ∃ s2, slV (x.g 2) (R 2).length = s2 := ⟨_, rfl⟩
  have hrow := HD0.out.row
  rw [hs0, hs1, hs2] at hrow
  have HS : Hid (Sq2 w.heap.size (triO ⟨q0, q1, q2⟩) b (bdO (pq x.kb) (pq x.kt) (.map (some x.km)) s0 s1 s2) W0.drew) := ⟨HQ0.out, hrow⟩
  clear hrow hs0 hs1 hs2
  refine wp_region_noPanic ?_
  refine wp_region_last (Sq2 w.heap.size (triO ⟨q0, q1, q2⟩) b (bdO (pq x.kb) (pq x.kt) (.map (some x.km)) s0 s1 s2)) 8 (by kernel_rfl) ?_
  refine wpL_take 0 7 (pq b) [] rfl rfl (by kernel_rfl) (by decide) (by kernel_rfl) (by kernel_rfl) (by kernel_rfl) (fun _ _ _ h => h) HS.out (by rfl) (fun W hW => by go_simp) ?_
  simp only [Act.put, List.setIfInBounds_toArray, List.set_cons_zero, List.set_cons_succ]
  refine wpL_take 5 12 (i64 env) [] rfl rfl (by kernel_rfl) (by decide) (by kernel_rfl) (by kernel_rfl) (by kernel_rfl) (fun _ _ _ h => h) HS.out (by rfl) (fun W hW => by go_simp) ?_
  simp only [Act.put, List.setIfInBounds_toArray, List.set_cons_zero, List.set_cons_succ]
  refine wpL_take 6 13 (.agg #[i64 q0, i64 q1, i64 q2]) [] rfl rfl (by kernel_rfl) (by decide) (by kernel_rfl) (by kernel_rfl) (by kernel_rfl) (fun _ _ _ h => h) HS.out (by rfl) (fun W hW => by have q0 := blk_cell hW.one 0; have q1 := blk_cell hW.one 1; have q2 := blk_cell hW.one 2; have o0 := blk_cell hW.two 0; go_simp) ?_
  simp only [Act.put, List.setIfInBounds_toArray, List.set_cons_zero, List.set_cons_succ]
  refine wpL_one 1 rfl (by kernel_rfl) (by rfl) (fun K hK => ?_)
  go_simp
  refine (orEmpty_ok _ b).mono ?_
  rintro e w1 ⟨rfl, hw1⟩
  subst hw1
  go_simp
  refine hK.out _ _ (fun _ => HS.out) ?_
  clear hK K
  refine wpL_take 2 9 (pq b) [] rfl rfl (by kernel_rfl) (by decide) (by kernel_rfl) (by kernel_rfl) (by kernel_rfl) (fun _ _ _ h => h) HS.out (by rfl) (fun W hW => by go_simp) ?_
  simp only [Act.put, List.setIfInBounds_toArray, List.set_cons_zero, List.set_cons_succ]
  refine wpL_take 3 10 (.pointer (some ⟨b, 0, none⟩)) [] rfl rfl (by kernel_rfl) (by decide) (by kernel_rfl) (by kernel_rfl) (by kernel_rfl) (fun _ _ _ h => h) HS.out (by rfl) (fun W hW => by go_simp) ?_
  simp only [Act.put, List.setIfInBounds_toArray, List.set_cons_zero, List.set_cons_succ]
  refine wpL_take 4 11 (pq x.kb) [] rfl rfl (by kernel_rfl) (by decide) (by kernel_rfl) (by kernel_rfl) (by kernel_rfl) (fun _ _ _ h => h) HS.out (by rfl) (fun W hW => by have q0 := blk_cell hW.one 0; have q1 := blk_cell hW.one 1; have q2 := blk_cell hW.one 2; have o0 := blk_cell hW.two 0; go_simp) ?_
  simp only [Act.put, List.setIfInBounds_toArray, List.set_cons_zero, List.set_cons_succ]
  refine wpL_one 7 rfl (by kernel_rfl) (by rfl) (fun K hK => ?_)
  go_simp
  refine (HO.out _ HD0.out.drew.bk).mono ?_
  rintro e w2 ⟨rfl, s', hs', hk', hf'⟩
  have HS' := hid hs'
  have HD2 : Hid (Bd w2 base b x t s' T L R) := HD0.out.drew.book hk' hf'
  have HF2 : Hid (Bf base x w w2) := (Bf.of_below HB0.out HF.out).trans (Bf.of_drew (Bd.book_f hf'))
  have HSx : Hid (Sq2 w.heap.size (triO ⟨q0, q1, q2⟩) b (bdO (pq x.kb) (pq x.kt) (.map (some x.km)) s0 s1 s2) w2) := ⟨hf'.kept _ _ HS.out.one rfl, hf'.kept _ _ HS.out.two rfl⟩
  clear hs' hk' hf'
  go_simp
  refine hK.out _ _ (fun _ => HSx.out) ?_
  clear hK K
  refine wpL_one 8 rfl (by kernel_rfl) (by rfl) (fun K hK => ?_)
  go_simp
  refine hK.out _ _ (fun h => absurd rfl h) ?_
  clear hK K
  refine wpL_done (by kernel_rfl) ?_
  refine NoPanic.normal ?_
  clear HS HSx
  go_wp2_with fail
  go_ret
  exact ⟨rfl, s', HS'.out, HD2.out, HF2.out⟩
theorem spare_ok {w : World} {base b : Nat} {x : Bx} {t : Qt.T} {s : Qt.St} {T : List Cp.Pl} {L : Ls} {R : Nat → List Hn} (h : Bd w base b x t s T L R) : Calls Try.prog 17 #[pq b] w fun e w' => e = .returned (Qt.freeT t s).v ∧ Below w.heap.size w w' :=
  spare_gen w (pq b) _ _ _ _ _ _ _ (ent_ok h.row) (fun _ hW => Qt.free_ok (h.bk.below hW))
end Go.Proofs.Ytnknhencobhjdaa
