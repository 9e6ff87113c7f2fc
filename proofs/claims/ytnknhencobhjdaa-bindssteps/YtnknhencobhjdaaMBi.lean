/- No statement here. -/
import Derived.Test.YtnknhencobhjdaaMIx
set_option maxRecDepth 100000
namespace Go.Proofs.Ytnknhencobhjdaa
open Go.ChangeShapes Go.WideShapes Go.ChangeAt Go.RowKit Go.Deep Go.ChangeMaps Go.MapKept
open Go.Proofs.Ytnknhencobhjdaa.Cp (pq hid bl1 hO cO zC looks_nil)
open Go.Proofs.Ytnknhencobhjdaa.Qt (zT badB)
def rset (R : Nat → List Hn) (k i : Nat) (h : Hn) : Nat → List Hn := fun j => if j = k then (R k).set i h else R j
theorem rset_len (R : Nat → List Hn) (k i : Nat) (h : Hn) (j : Nat) : (rset R k i h j).length = (R j).length := by
  unfold rset
  by_cases e : j = k
  · rw [if_pos e, e]; simp
  · rw [if_neg e]
theorem rt_set {w : World} {g : Nat} {R : List Hn} (h : w.heap[g]? = some (rtO R)) {i : Nat} (hi : i < R.length) (p0 p1 : Int) : ((w.setCell ⟨g, i * 2, none⟩ (i64 p0)).setCell ⟨g, i * 2 + 1, none⟩ (i64 p1)).heap[g]? = some (rtO (R.set i (p0, p1))) := by
  have h1 := heap_setCell_same w g (i * 2) _ 43 (i64 p0) h
  have h2 := heap_setCell_same _ g (i * 2 + 1) _ 43 (i64 p1) h1
  rw [h2]
  unfold rtO
  rw [hC_set R i _ hi]
  simp
theorem touch_set2 (w : World) (g a c : Nat) (u v : Value) : Touch g w ((w.setCell ⟨g, a, none⟩ u).setCell ⟨g, c, none⟩ v) := ((Touch.refl g w).setCell rfl u).setCell rfl v
set_option maxHeartbeats 1600000 in
theorem bindLowest_ok {w : World} {base b : Nat} {x : Bx} {t : Qt.T} {s : Qt.St} {T : List Cp.Pl} {L : Ls} {R : Nat → List Hn} (h : Bd w base b x t s T L R) (hL : L.length ≤ 1000) (env kind : Int) (hc : cnt L env < 42) (k : Nat) (hk : k < 3) (hkind : kind = (k : Int) + 1) (i : Nat) (hi : (R k)[i]? = some (0, 0)) (hno : ∀ j, j < i → (R k)[j]? ≠ some (0, 0)) (hcap : Cp.rightB ⟨env, kind, i, 3⟩ = true)
    (q : Nat) (p : Cp.Pl) (hp : T[q]? = some p) (hf : p.c = zC) (hqn : ∀ j r, j < q → T[j]? = some r → r.c ≠ zC) (hg0 : 0 ≤ p.gen) (hg1 : p.gen ≤ 1000000000) (hnew : ∀ r ∈ L, r.1 ≠ ((q : Int), p.gen + 1)) :
    Calls Try.prog 58 #[pq b, i64 env, i64 kind] w fun e w' => e = .returned (.tuple #[i64 i, .agg #[i64 (q : Nat), i64 (p.gen + 1)], i64 0]) ∧ Bd w' base b x t s (T.set q ⟨⟨env, kind, i, 3⟩, -1, p.gen + 1⟩) (L ++ [(((q : Int), p.gen + 1), (env, env))]) (rset R k i ((q : Int), p.gen + 1)) ∧ Bf base x w w' := by
  have hil : i < (R k).length := (List.getElem?_eq_some_iff.1 hi).1
  have hlen := h.len k hk
  have HD0 : Hid (Bd (w.alloc (.cells #[i64 0, i64 0] 43)) base b x t s T L R) := h.below (bl1 w _)
  have HB0 : Hid (Below w.heap.size w (w.alloc (.cells #[i64 0, i64 0] 43))) := bl1 w _
  have HQ0 : Hid ((w.alloc (.cells #[i64 0, i64 0] 43)).heap[w.heap.size]? = some (hO 0 0)) := hlx w _
  have HF : Hid (base ≤ w.heap.size) := h.lo'
  have hgs : ∀ j, j < 3 → x.g j < w.heap.size := fun j hj => blk_lt (h.rt j hj).1
  have hgw := hgs k hk
  have HLe := hid hL
  have HKi := hid hkind
  have HI := hid hi
  have HNo := hid hno
  have HMi : Hid (∀ W, Cp.Tb W base x.kt T → Calls Try.prog 84 #[pq x.kt, .agg #[i64 env, i64 kind, i64 i, i64 3]] W fun e w' => e = .returned (.tuple #[.agg #[i64 (q : Nat), i64 (p.gen + 1)], i64 0]) ∧ Cp.Tb w' base x.kt (T.set q ⟨⟨env, kind, i, 3⟩, -1, p.gen + 1⟩) ∧ Touch x.kt W w') := fun W hW => Cp.mint_ok hW ⟨env, kind, i, 3⟩ hcap q p hp hf hqn hg0 hg1
  have HNew := hid hnew
  have hcI : ¬ (42 : Int) ≤ ((cnt L env : Nat) : Int) := by omega
  clear h hL hkind hi hno hcap hp hf hqn hg0 hg1 hnew
  generalize T.set q ⟨⟨env, kind, i, 3⟩, -1, p.gen + 1⟩ = T' at *
  generalize p.gen + 1 = gn at *
  clear p
  go_enter Try.func58, Try.ntmps58
  go_wp2_with fail
  refine (paid_ok HD0.out HLe.out env).mono ?_
  rintro e w1 ⟨rfl, hb1⟩
  have HD1 := hid (HD0.out.below hb1)
  have HB1 := bth HB0 hb1
  have HQ1 : Hid (w1.heap[w.heap.size]? = some (hO 0 0)) := bkb HQ0.out hb1
  clear hb1 HD0 HB0 HQ0 HLe
  generalize cnt L env = c at *
  go_wp2_with fail
  refine (rootsOf_ok HD1.out k hk kind HKi.out).mono ?_
  rintro e w2 ⟨rfl, hw2⟩
  subst hw2
  go_wp2_with fail
  refine (index_ok w2 (x.g k) (R k) (HD1.out.rt k hk).1 hlen 0 0 i HI.out HNo.out).mono ?_
  rintro e w3 ⟨rfl, hb3⟩
  have HD3 := hid (HD1.out.below hb3)
  have HB3 := bth HB1 hb3
  have HQ3 : Hid (w3.heap[w.heap.size]? = some (hO 0 0)) := bkb HQ1.out hb3
  clear hb3 HD1 HB1 HQ1 HI HNo
  have o1 : w3.cell? ⟨b, 1, none⟩ = some (pq x.kt) := bkc HD3.out.row 1
  go_wp2_with fail
  refine (HMi.out w3 HD3.out.tb).mono ?_
  rintro e w4 ⟨rfl, ht4, hto4⟩
  have HD4 := hid (HD3.out.table ht4 hto4)
  have HF4 : Hid (Bf base x w w4) := (Bf.of_below HB3.out HF.out).trans (HD3.out.table_f hto4)
  have hne : w.heap.size ≠ x.kt := ne_of_obj HQ3.out HD3.out.tb.row (by simp)
  have HQ4 : Hid (w4.heap[w.heap.size]? = some (hO 0 0)) := (hto4.block _ (blk_lt HQ3.out) hne).trans HQ3.out
  clear ht4 hto4 HD3 HB3 HQ3 o1 hne HMi
  have HD5 : Hid (Bd (w4.alloc (.cells #[i64 (q : Nat), i64 gn] 43)) base b x t s T' L R) := HD4.out.below (bl1 w4 _)
  have HF5 : Hid (Bf base x w (w4.alloc (.cells #[i64 (q : Nat), i64 gn] 43))) := HF4.out.trans (Bf.of_below (bl1 w4 _) HD4.out.lo')
  have HQ5 : Hid ((w4.alloc (.cells #[i64 (q : Nat), i64 gn] 43)).heap[w.heap.size]? = some (hO 0 0)) := bka HQ4.out _
  have HZ5 : Hid ((w4.alloc (.cells #[i64 (q : Nat), i64 gn] 43)).heap[w4.heap.size]? = some (hO (q : Nat) gn)) := hlx w4 _
  have hZ : w.heap.size < w4.heap.size := blk_lt HQ4.out
  have hgl : x.g k < w4.heap.size := blk_lt (HD4.out.rt k hk).1
  clear HD4 HF4 HQ4
  go_upto_region 8 with fail
  generalize w4.alloc (.cells #[i64 (q : Nat), i64 gn] 43) = W5 at *
  generalize w4.heap.size = Z at *
  have y0 : W5.cell? ⟨Z, 0, none⟩ = some (i64 (q : Nat)) := bkc HZ5.out 0
  have y1 : W5.cell? ⟨Z, 1, none⟩ = some (i64 gn) := bkc HZ5.out 1
  obtain ⟨c0, c1⟩ := rt_cells (HD5.out.rt k hk).1 (i := i) (p := (R k)[i]) (List.getElem?_eq_getElem hil)
  have zf : ∀ j, W5.frozen? ⟨x.g k, j, none⟩ = false := bkf (HD5.out.rt k hk).1
  have hiI : (i : Int) < ((R k).length : Int) := by omega
  go_upto_region 9 with fail
  clear y0 y1 c0 c1 zf hcI hiI
  have ht6 := touch_set2 W5 (x.g k) (i * 2) (i * 2 + 1) (i64 (q : Nat)) (i64 gn)
  have HD6 : Hid (Bd ((W5.setCell ⟨x.g k, i * 2, none⟩ (i64 (q : Nat))).setCell ⟨x.g k, i * 2 + 1, none⟩ (i64 gn)) base b x t s T' L (rset R k i ((q : Int), gn))) := HD5.out.root hk (by simp) (rt_set (HD5.out.rt k hk).1 hil _ _) ht6
  have HF6 : Hid (Bf base x w ((W5.setCell ⟨x.g k, i * 2, none⟩ (i64 (q : Nat))).setCell ⟨x.g k, i * 2 + 1, none⟩ (i64 gn))) := HF5.out.trans (HD5.out.root_f hk ht6)
  have HQ6 : Hid (((W5.setCell ⟨x.g k, i * 2, none⟩ (i64 (q : Nat))).setCell ⟨x.g k, i * 2 + 1, none⟩ (i64 gn)).heap[w.heap.size]? = some (hO 0 0)) := (ht6.block _ (blk_lt HQ5.out) (by omega)).trans HQ5.out
  have HZ6 : Hid (((W5.setCell ⟨x.g k, i * 2, none⟩ (i64 (q : Nat))).setCell ⟨x.g k, i * 2 + 1, none⟩ (i64 gn)).heap[Z]? = some (hO (q : Nat) gn)) := (ht6.block _ (blk_lt HZ5.out) (by omega)).trans HZ5.out
  clear ht6 HD5 HF5 HQ5 HZ5
  generalize (W5.setCell ⟨x.g k, i * 2, none⟩ (i64 (q : Nat))).setCell ⟨x.g k, i * 2 + 1, none⟩ (i64 gn) = W6 at *
  obtain ⟨w7, hrun7, hm7, hto7, hsz7⟩ := HD6.out.drew.mp.put ((q : Int), gn) (env, env) HNew.out
  have hr7 : (Instr.mapUpdate 68 (.map (some x.km)) (.agg #[i64 (q : Nat), i64 gn]) (.agg #[i64 env, i64 env])).run Try.prog W6.drew = .ok () w7 := hrun7
  have HD7 : Hid (Bd w7 base b x t s T' (L ++ [(((q : Int), gn), (env, env))]) (rset R k i ((q : Int), gn))) := HD6.out.drew.bills hm7 hto7
  have HF7 : Hid (Bf base x w w7) := HF6.out.trans (Bf.of_drew (HD6.out.drew.bills_f hto7))
  have HQ7 : Hid (w7.heap[w.heap.size]? = some (hO 0 0)) := (hto7.block _ (blk_lt HQ6.out) (HD6.out.mp.ne HQ6.out)).trans HQ6.out
  have HZ7 : Hid (w7.heap[Z]? = some (hO (q : Nat) gn)) := (hto7.block _ (blk_lt HZ6.out) (HD6.out.mp.ne HZ6.out)).trans HZ6.out
  have hrow := HD6.out.row
  obtain ⟨s0, hs0⟩ : ∃ s0, slV (x.g 0) (rset R k i ((q : Int), gn) 0).length = s0 := ⟨_, rfl⟩
  obtain ⟨s1, hs1⟩ : ∃ s1, slV (x.g 1) (rset R k i ((q : Int), gn) 1).length = s1 := ⟨_, rfl⟩
  obtain ⟨s2, hs2⟩ : ∃ s2, slV (x.g 2) (rset R k i ((q : Int), gn) 2).length = s2 := ⟨_, rfl⟩
  rw [hs0, hs1, hs2] at hrow
  have HS : Hid (Sq2 Z (hO (q : Nat) gn) b (bdO (pq x.kb) (pq x.kt) (.map (some x.km)) s0 s1 s2) W6.drew) := ⟨HZ6.out, hrow⟩
  clear hrun7 hm7 hto7 hsz7 HF6 HQ6 HZ6 HD6 hrow hs0 hs1 hs2 HNew
  refine wp_region_noPanic ?_
  refine wrl (Sq2 Z (hO (q : Nat) gn) b (bdO (pq x.kb) (pq x.kt) (.map (some x.km)) s0 s1 s2)) 8 (by kernel_rfl) ?_
  refine wk 0 44 (pq b) rfl HS.out (fun W hW => by have q0 := bkc hW.one 0; have q1 := bkc hW.one 1; have o2 := bkc hW.two 2; go_simp) ?_
  refine wk 1 45 (pq b) rfl HS.out (fun W hW => by have q0 := bkc hW.one 0; have q1 := bkc hW.one 1; have o2 := bkc hW.two 2; go_simp) ?_
  refine wk 2 46 (.pointer (some ⟨b, 2, none⟩)) rfl HS.out (fun W hW => by have q0 := bkc hW.one 0; have q1 := bkc hW.one 1; have o2 := bkc hW.two 2; go_simp) ?_
  refine wk 3 47 (.map (some x.km)) rfl HS.out (fun W hW => by have q0 := bkc hW.one 0; have q1 := bkc hW.one 1; have o2 := bkc hW.two 2; go_simp) ?_
  refine wk 4 48 (.agg #[i64 (q : Nat), i64 gn]) rfl HS.out (fun W hW => by have q0 := bkc hW.one 0; have q1 := bkc hW.one 1; have o2 := bkc hW.two 2; go_simp) ?_
  refine wk 5 49 (i64 env) rfl HS.out (fun W hW => by go_simp) ?_
  refine wk 6 50 (i64 env) rfl HS.out (fun W hW => by go_simp) ?_
  refine wk 7 51 (.agg #[i64 env, i64 env]) rfl HS.out (fun W hW => by go_simp) ?_
  simp only [Act.put, sA, sZ, sS]
  refine wo 8 rfl (fun K hK => ?_)
  go_simp
  refine hK.out _ _ (fun h => absurd rfl h) ?_
  clear hK K
  refine wdd ?_
  refine NoPanic.normal ?_
  clear HS hr7
  go_upto_region 10 with fail
  have HS : Hid (Sq2 Z (hO (q : Nat) gn) Z (hO (q : Nat) gn) w7.drew) := ⟨HZ7.out, HZ7.out⟩
  refine wp_region_noPanic ?_
  refine wrl (Sq2 Z (hO (q : Nat) gn) Z (hO (q : Nat) gn)) 4 (by kernel_rfl) ?_
  refine wk 0 52 (i64 i) rfl HS.out (fun W hW => by have q0 := bkc hW.one 0; have q1 := bkc hW.one 1; go_simp) ?_
  refine wk 1 53 (.agg #[i64 (q : Nat), i64 gn]) rfl HS.out (fun W hW => by have q0 := bkc hW.one 0; have q1 := bkc hW.one 1; go_simp) ?_
  simp only [Act.put, sA, sZ, sS]
  have z0 : w7.cell? ⟨w.heap.size, 0, none⟩ = some (i64 0) := bkc HQ7.out 0
  have z1 : w7.cell? ⟨w.heap.size, 1, none⟩ = some (i64 0) := bkc HQ7.out 1
  have zf : ∀ j, w7.frozen? ⟨w.heap.size, j, none⟩ = false := bkf HQ7.out
  refine wo 2 rfl (fun K hK => ?_)
  go_simp
  refine hK.out _ _ (fun _ => HS.out) ?_
  clear hK K
  have ht8 := touch_set2 w7 w.heap.size 0 1 (i64 (q : Nat)) (i64 gn)
  have HZ8 : Hid (((w7.setCell ⟨w.heap.size, 0, none⟩ (i64 (q : Nat))).setCell ⟨w.heap.size, 1, none⟩ (i64 gn)).heap[Z]? = some (hO (q : Nat) gn)) := (ht8.block _ (blk_lt HZ7.out) (by omega)).trans HZ7.out
  have HQ8 : Hid (((w7.setCell ⟨w.heap.size, 0, none⟩ (i64 (q : Nat))).setCell ⟨w.heap.size, 1, none⟩ (i64 gn)).heap[w.heap.size]? = some (hO (q : Nat) gn)) := Cp.set2 HQ7.out _ _
  have HD8 : Hid (Bd ((w7.setCell ⟨w.heap.size, 0, none⟩ (i64 (q : Nat))).setCell ⟨w.heap.size, 1, none⟩ (i64 gn)) base b x t s T' (L ++ [(((q : Int), gn), (env, env))]) (rset R k i ((q : Int), gn))) := HD7.out.box HQ7.out (fun j hj => by have := hgs j hj; omega) ht8
  have HF8 : Hid (Bf base x w ((w7.setCell ⟨w.heap.size, 0, none⟩ (i64 (q : Nat))).setCell ⟨w.heap.size, 1, none⟩ (i64 gn))) := HF7.out.box (Nat.le_refl _) HF.out ht8
  clear ht8
  refine wo 3 rfl (fun K hK => ?_)
  go_simp
  refine hK.out _ _ (fun _ => ⟨HZ8.out, HZ8.out⟩) ?_
  clear hK K
  refine wo 4 rfl (fun K hK => ?_)
  go_simp
  refine hK.out _ _ (fun h => absurd rfl h) ?_
  clear hK K
  refine wdd ?_
  refine NoPanic.normal ?_
  clear HS z0 z1 zf HQ7 HZ7 HD7 HF7
  generalize (w7.setCell ⟨w.heap.size, 0, none⟩ (i64 (q : Nat))).setCell ⟨w.heap.size, 1, none⟩ (i64 gn) = W8 at *
  go_wp2_with fail
  exact bodyPost_ret (results_mid Try.results58 rfl rfl rfl (Cp.load42 (W := W8.drew) HQ8.out)) rfl ⟨rfl, HD8.out.drew, HF8.out.drew⟩
end Go.Proofs.Ytnknhencobhjdaa
namespace Go.Proofs.Ytnknhencobhjdaa
open Go.ChangeShapes Go.WideShapes Go.ChangeAt Go.RowKit Go.Deep Go.ChangeMaps Go.MapKept
open Go.Proofs.Ytnknhencobhjdaa.Cp (pq hid bl1 hO cO zC looks_nil)
open Go.Proofs.Ytnknhencobhjdaa.Qt (zT badB)
set_option maxHeartbeats 1600000 in
theorem bind_ok {w : World} {base b : Nat} {x : Bx} {t : Qt.T} {s : Qt.St} {T : List Cp.Pl} {L : Ls} {R : Nat → List Hn} (h : Bd w base b x t s T L R) (hL : L.length ≤ 1000) (env kind : Int) (htk : Qt.tkE (Qt.at_ s env) kind 1 = 0) (hc : cnt L env < 42) (k : Nat) (hk : k < 3) (hkind : kind = (k : Int) + 1) (i : Nat) (hi : (R k)[i]? = some (0, 0)) (hno : ∀ j, j < i → (R k)[j]? ≠ some (0, 0)) (hcap : Cp.rightB ⟨env, kind, i, 3⟩ = true)
    (q : Nat) (p : Cp.Pl) (hp : T[q]? = some p) (hf : p.c = zC) (hqn : ∀ j r, j < q → T[j]? = some r → r.c ≠ zC) (hg0 : 0 ≤ p.gen) (hg1 : p.gen ≤ 1000000000) (hnew : ∀ r ∈ L, r.1 ≠ ((q : Int), p.gen + 1)) :
    Calls Try.prog 20 #[pq b, i64 env, i64 kind] w fun e w' => e = .returned (.tuple #[i64 i, .agg #[i64 (q : Nat), i64 (p.gen + 1)], i64 0]) ∧ Bd w' base b x t (Qt.tkS s env kind 1) (T.set q ⟨⟨env, kind, i, 3⟩, -1, p.gen + 1⟩) (L ++ [(((q : Int), p.gen + 1), (env, env))]) (rset R k i ((q : Int), p.gen + 1)) ∧ Bf base x w w' := by
  have HF : Hid (base ≤ w.heap.size) := h.lo'
  have hgs : ∀ j, j < 3 → x.g j < w.heap.size := fun j hj => blk_lt (h.rt j hj).1
  have HD0 : Hid (Bd (w.alloc (.cells #[i64 0, i64 0] 43)) base b x t s T L R) := h.below (bl1 w _)
  have HB0 : Hid (Below w.heap.size w (w.alloc (.cells #[i64 0, i64 0] 43))) := bl1 w _
  have HQ0 : Hid ((w.alloc (.cells #[i64 0, i64 0] 43)).heap[w.heap.size]? = some (hO 0 0)) := hlx w _
  have HT : Hid (Qt.tkE (Qt.at_ s env) kind 1 = 0) := htk
  have HBl : Hid (∀ W, Bd W base b x t (Qt.tkS s env kind 1) T L R → Calls Try.prog 58 #[pq b, i64 env, i64 kind] W fun e w' => e = .returned (.tuple #[i64 i, .agg #[i64 (q : Nat), i64 (p.gen + 1)], i64 0]) ∧ Bd w' base b x t (Qt.tkS s env kind 1) (T.set q ⟨⟨env, kind, i, 3⟩, -1, p.gen + 1⟩) (L ++ [(((q : Int), p.gen + 1), (env, env))]) (rset R k i ((q : Int), p.gen + 1)) ∧ Bf base x W w') := fun W hW => bindLowest_ok hW hL env kind hc k hk hkind i hi hno hcap q p hp hf hqn hg0 hg1 hnew
  clear h hL htk hc hk hkind hi hno hcap hp hf hqn hg0 hg1 hnew
  generalize T.set q ⟨⟨env, kind, i, 3⟩, -1, p.gen + 1⟩ = T' at *
  generalize p.gen + 1 = gn at *
  clear p
  generalize rset R k i ((q : Int), gn) = R' at *
  generalize L ++ [(((q : Int), gn), (env, env))] = L' at *
  go_enter Try.func20, Try.ntmps20
  go_upto_region 1 with fail
  generalize w.alloc (.cells #[i64 0, i64 0] 43) = W0 at *
  have o0 : W0.cell? ⟨b, 0, none⟩ = some (pq x.kb) := bkc HD0.out.row 0
  go_wp2_with (go_at_call 48; refine (orEmpty_ok _ b).mono ?_; rintro e w1 ⟨rfl, rfl⟩)
  rename_i w1
  refine (Qt.take_ok HD0.out.bk env kind 1 (by omega)).mono ?_
  rintro e w2 ⟨he, hbk2, hf2⟩
  rw [HT.out] at he
  subst he
  have HD2 := hid (HD0.out.book hbk2 hf2)
  have HF2 : Hid (Bf base x w w2) := (Bf.of_below HB0.out HF.out).trans (Bd.book_f hf2)
  have HQ2 : Hid (w2.heap[w.heap.size]? = some (hO 0 0)) := hf2.kept _ _ HQ0.out rfl
  clear hbk2 hf2 HD0 HB0 HQ0 o0 HT
  go_wp2_with fail
  refine (HBl.out w2 HD2.out).mono ?_
  rintro e w3 ⟨rfl, hd3, hf3⟩
  have hq3 : w3.heap[w.heap.size]? = some (hO 0 0) := hf3.kept _ _ HQ2.out (by
    have e0 := hgs 0 (by omega)
    have e1 := hgs 1 (by omega)
    have e2 := hgs 2 (by omega)
    simp only [ownB, Bool.or_eq_false_iff, beq_eq_false_iff_ne]
    refine ⟨⟨⟨⟨⟨by decide, by decide⟩, by decide⟩, by omega⟩, by omega⟩, by omega⟩)
  have HD4 : Hid (Bd (w3.alloc (.cells #[i64 (q : Nat), i64 gn] 43)) base b x t (Qt.tkS s env kind 1) T' L' R') := hd3.below (bl1 w3 _)
  have HF4 : Hid (Bf base x w (w3.alloc (.cells #[i64 (q : Nat), i64 gn] 43))) := (HF2.out.trans hf3).trans (Bf.of_below (bl1 w3 _) hd3.lo')
  have HQ4 : Hid ((w3.alloc (.cells #[i64 (q : Nat), i64 gn] 43)).heap[w.heap.size]? = some (hO 0 0)) := bka hq3 _
  have HZ4 : Hid ((w3.alloc (.cells #[i64 (q : Nat), i64 gn] 43)).heap[w3.heap.size]? = some (hO (q : Nat) gn)) := hlx w3 _
  have hZ : w.heap.size < w3.heap.size := blk_lt hq3
  clear hd3 hf3 hq3 HD2 HF2 HQ2 HBl
  go_upto_region 8 with fail
  generalize w3.alloc (.cells #[i64 (q : Nat), i64 gn] 43) = w7 at *
  generalize w3.heap.size = Z at *
  have HS : Hid (Sq2 Z (hO (q : Nat) gn) Z (hO (q : Nat) gn) w7.drew) := ⟨HZ4.out, HZ4.out⟩
  refine wp_region_noPanic ?_
  refine wrl (Sq2 Z (hO (q : Nat) gn) Z (hO (q : Nat) gn)) 5 (by kernel_rfl) ?_
  refine wk 0 43 (i64 i) rfl HS.out (fun W hW => by have q0 := bkc hW.one 0; have q1 := bkc hW.one 1; go_simp) ?_
  refine wk 1 44 (.agg #[i64 (q : Nat), i64 gn]) rfl HS.out (fun W hW => by have q0 := bkc hW.one 0; have q1 := bkc hW.one 1; go_simp) ?_
  refine wk 2 45 (i64 0) rfl HS.out (fun W hW => by have q0 := bkc hW.one 0; have q1 := bkc hW.one 1; go_simp) ?_
  simp only [Act.put, sA, sZ, sS]
  have z0 : w7.cell? ⟨w.heap.size, 0, none⟩ = some (i64 0) := bkc HQ4.out 0
  have z1 : w7.cell? ⟨w.heap.size, 1, none⟩ = some (i64 0) := bkc HQ4.out 1
  have zf : ∀ j, w7.frozen? ⟨w.heap.size, j, none⟩ = false := bkf HQ4.out
  refine wo 3 rfl (fun K hK => ?_)
  go_simp
  refine hK.out _ _ (fun _ => HS.out) ?_
  clear hK K
  have ht8 := touch_set2 w7 w.heap.size 0 1 (i64 (q : Nat)) (i64 gn)
  have HZ8 : Hid (((w7.setCell ⟨w.heap.size, 0, none⟩ (i64 (q : Nat))).setCell ⟨w.heap.size, 1, none⟩ (i64 gn)).heap[Z]? = some (hO (q : Nat) gn)) := (ht8.block _ (blk_lt HZ4.out) (by omega)).trans HZ4.out
  have HQ8 : Hid (((w7.setCell ⟨w.heap.size, 0, none⟩ (i64 (q : Nat))).setCell ⟨w.heap.size, 1, none⟩ (i64 gn)).heap[w.heap.size]? = some (hO (q : Nat) gn)) := Cp.set2 HQ4.out _ _
  have HD8 : Hid (Bd ((w7.setCell ⟨w.heap.size, 0, none⟩ (i64 (q : Nat))).setCell ⟨w.heap.size, 1, none⟩ (i64 gn)) base b x t (Qt.tkS s env kind 1) T' L' R') := HD4.out.box HQ4.out (fun j hj => by have := hgs j hj; omega) ht8
  have HF8 : Hid (Bf base x w ((w7.setCell ⟨w.heap.size, 0, none⟩ (i64 (q : Nat))).setCell ⟨w.heap.size, 1, none⟩ (i64 gn))) := HF4.out.box (Nat.le_refl _) HF.out ht8
  clear ht8
  refine wo 4 rfl (fun K hK => ?_)
  go_simp
  refine hK.out _ _ (fun _ => ⟨HZ8.out, HZ8.out⟩) ?_
  clear hK K
  refine wo 5 rfl (fun K hK => ?_)
  go_simp
  refine hK.out _ _ (fun h => absurd rfl h) ?_
  clear hK K
  refine wdd ?_
  refine NoPanic.normal ?_
  clear HS z0 z1 zf HQ4 HZ4 HD4 HF4
  generalize (w7.setCell ⟨w.heap.size, 0, none⟩ (i64 (q : Nat))).setCell ⟨w.heap.size, 1, none⟩ (i64 gn) = W8 at *
  go_wp2_with fail
  exact bodyPost_ret (results_mid Try.results20 rfl rfl rfl (Cp.load42 (W := W8.drew) HQ8.out)) rfl ⟨rfl, HD8.out.drew, HF8.out.drew⟩
set_option maxHeartbeats 1600000 in
theorem open_ok {w : World} {base b : Nat} {x : Bx} {t : Qt.T} {s : Qt.St} {T : List Cp.Pl} {L : Ls} {R : Nat → List Hn} (h : Bd w base b x t s T L R) (env q0 q1 q2 : Int) :
    Calls Try.prog 18 #[pq b, i64 env, .agg #[i64 q0, i64 q1, i64 q2]] w fun e w' => e = .returned (i64 (Qt.opE t s env ⟨q0, q1, q2⟩)) ∧ ∃ s', Qt.OpS t s s' env ⟨q0, q1, q2⟩ ∧ Bd w' base b x t s' T L R ∧ Bf base x w w' := by
  have HF : Hid (base ≤ w.heap.size) := h.lo'
  have HD0 : Hid (Bd (w.alloc (.cells #[i64 q0, i64 q1, i64 q2] 22)) base b x t s T L R) := h.below (bl1 w _)
  have HB0 : Hid (Below w.heap.size w (w.alloc (.cells #[i64 q0, i64 q1, i64 q2] 22))) := bl1 w _
  have HQ0 : Hid ((w.alloc (.cells #[i64 q0, i64 q1, i64 q2] 22)).heap[w.heap.size]? = some (triO ⟨q0, q1, q2⟩)) := hlx w _
  have HO : Hid (∀ W, Qt.Bk W base x.kb t s → Calls Try.prog 53 #[pq x.kb, i64 env, .agg #[i64 q0, i64 q1, i64 q2]] W fun e w' => e = .returned (i64 (Qt.opE t s env ⟨q0, q1, q2⟩)) ∧ ∃ s', Qt.OpS t s s' env ⟨q0, q1, q2⟩ ∧ Qt.Bk w' base x.kb t s' ∧ Fr base [118, 141] W w') := fun W hW => Qt.open_ok hW env ⟨q0, q1, q2⟩
  generalize Qt.opE t s env ⟨q0, q1, q2⟩ = X at *
  clear h
  go_enter Try.func18, Try.ntmps18
  go_upto_region 1 with fail
  generalize w.alloc (.cells #[i64 q0, i64 q1, i64 q2] 22) = W0 at *
  obtain ⟨s0, hs0⟩ : ∃ s0, slV (x.g 0) (R 0).length = s0 := ⟨_, rfl⟩
  obtain ⟨s1, hs1⟩ : ∃ s1, slV (x.g 1) (R 1).length = s1 := ⟨_, rfl⟩
  obtain ⟨s2, hs2⟩ : ∃ s2, slV (x.g 2) (R 2).length = s2 := ⟨_, rfl⟩
  have hrow := HD0.out.row
  rw [hs0, hs1, hs2] at hrow
  have HS : Hid (Sq2 w.heap.size (triO ⟨q0, q1, q2⟩) b (bdO (pq x.kb) (pq x.kt) (.map (some x.km)) s0 s1 s2) W0.drew) := ⟨HQ0.out, hrow⟩
  clear hrow hs0 hs1 hs2
  refine wp_region_noPanic ?_
  refine wrl (Sq2 w.heap.size (triO ⟨q0, q1, q2⟩) b (bdO (pq x.kb) (pq x.kt) (.map (some x.km)) s0 s1 s2)) 8 (by kernel_rfl) ?_
  refine wk 0 7 (pq b) rfl HS.out (fun W hW => by go_simp) ?_
  refine wk 5 12 (i64 env) rfl HS.out (fun W hW => by go_simp) ?_
  refine wk 6 13 (.agg #[i64 q0, i64 q1, i64 q2]) rfl HS.out (fun W hW => by have q0 := bkc hW.one 0; have q1 := bkc hW.one 1; have q2 := bkc hW.one 2; have o0 := bkc hW.two 0; go_simp) ?_
  simp only [Act.put, sA, sZ, sS]
  refine wo 1 rfl (fun K hK => ?_)
  go_simp
  refine (orEmpty_ok _ b).mono ?_
  rintro e w1 ⟨rfl, hw1⟩
  subst hw1
  go_simp
  refine hK.out _ _ (fun _ => HS.out) ?_
  clear hK K
  refine wk 2 9 (pq b) rfl HS.out (fun W hW => by go_simp) ?_
  refine wk 3 10 (.pointer (some ⟨b, 0, none⟩)) rfl HS.out (fun W hW => by go_simp) ?_
  refine wk 4 11 (pq x.kb) rfl HS.out (fun W hW => by have q0 := bkc hW.one 0; have q1 := bkc hW.one 1; have q2 := bkc hW.one 2; have o0 := bkc hW.two 0; go_simp) ?_
  simp only [Act.put, sA, sZ, sS]
  refine wo 7 rfl (fun K hK => ?_)
  go_simp
  refine (HO.out _ HD0.out.drew.bk).mono ?_
  rintro e w2 ⟨rfl, s', hs', hk', hf'⟩
  have HS' := hid hs'
  have HD2 : Hid (Bd w2 base b x t s' T L R) := HD0.out.drew.book hk' hf'
  have HF2 : Hid (Bf base x w w2) := (Bf.of_below HB0.out HF.out).trans (Bf.of_drew (Bd.book_f hf'))
  have HSx : Hid (Sq2 w.heap.size (triO ⟨q0, q1, q2⟩) b (bdO (pq x.kb) (pq x.kt) (.map (some x.km)) s0 s1 s2) w2) := ⟨hf'.kept _ _ HS.out.one rfl, hf'.kept _ _ HS.out.two rfl⟩
  clear hs' hk' hf'
  go_simp
  refine hK.out _ _ (fun _ => HSx.out) ?_
  clear hK K
  refine wo 8 rfl (fun K hK => ?_)
  go_simp
  refine hK.out _ _ (fun h => absurd rfl h) ?_
  clear hK K
  refine wdd ?_
  refine NoPanic.normal ?_
  clear HS HSx
  go_wp2_with fail
  go_ret
  exact ⟨rfl, s', HS'.out, HD2.out, HF2.out⟩
theorem spare_ok {w : World} {base b : Nat} {x : Bx} {t : Qt.T} {s : Qt.St} {T : List Cp.Pl} {L : Ls} {R : Nat → List Hn} (h : Bd w base b x t s T L R) : Calls Try.prog 17 #[pq b] w fun e w' => e = .returned (Qt.freeT t s).v ∧ Below w.heap.size w w' :=
  spare_gen w (pq b) _ _ _ _ _ _ _ (ent_ok h.row) (fun _ hW => Qt.free_ok (h.bk.below hW))
end Go.Proofs.Ytnknhencobhjdaa
