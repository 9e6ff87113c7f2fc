/- No statement here. -/
import Derived.Test.YtnknhencobhjdaaMEr2
set_option maxRecDepth 100000
namespace Go.Proofs.Ytnknhencobhjdaa
open Go.ChangeShapes Go.WideShapes Go.ChangeAt Go.RowKit Go.Deep Go.ChangeMaps Go.MapKept
open Go.Proofs.Ytnknhencobhjdaa.Cp (pq hid bl1 hO cO zC looks_nil)
open Go.Proofs.Ytnknhencobhjdaa.Qt (zT badB)
set_option maxHeartbeats 1600000 in
theorem bind_full {w : World} {base b : Nat} {x : Bx} {t : Qt.T} {s : Qt.St} {T : List Cp.Pl} {L : Ls} {R : Nat → List Hn} (h : Bd w base b x t s T L R) (hL : L.length ≤ 1000) (env kind : Int) (htk : Qt.tkE (Qt.at_ s env) kind 1 = 0) (hc : 42 ≤ cnt L env) :
    Calls Try.prog 20 #[pq b, i64 env, i64 kind] w fun e w' => e = .returned (.tuple #[i64 0, .agg #[i64 0, i64 0], i64 5]) ∧ Bd w' base b x t (Qt.gvS (Qt.tkS s env kind 1) env kind 1) T L R ∧ Bf base x w w' := by
  have HF : Hid (base ≤ w.heap.size) := h.lo'
  have hgs : ∀ j, j < 3 → x.g j < w.heap.size := fun j hj => blk_lt (h.rt j hj).1
  have HD0 : Hid (Bd (w.alloc (.cells #[i64 0, i64 0] 43)) base b x t s T L R) := h.below (bl1 w _)
  have HB0 : Hid (Below w.heap.size w (w.alloc (.cells #[i64 0, i64 0] 43))) := bl1 w _
  have HQ0 : Hid ((w.alloc (.cells #[i64 0, i64 0] 43)).heap[w.heap.size]? = some (hO 0 0)) := hlx w _
  have HT : Hid (Qt.tkE (Qt.at_ s env) kind 1 = 0) := htk
  have HBl : Hid (∀ W, Bd W base b x t (Qt.tkS s env kind 1) T L R → Calls Try.prog 58 #[pq b, i64 env, i64 kind] W fun e w' => e = .returned (.tuple #[i64 0, .agg #[i64 0, i64 0], i64 5]) ∧ Below W.heap.size W w') := fun W hW => bindLowest_full hW hL env kind hc
  clear h hL htk hc
  go_enter Try.func20, Try.ntmps20
  go_upto_region 1 with fail
  generalize w.alloc (.cells #[i64 0, i64 0] 43) = W0 at *
  have o0 : W0.cell? ⟨b, 0, none⟩ = some (pq x.kb) := bkc HD0.out.row 0
  go_wp2_with (go_at_call 48; refine (orEmpty_ok _ b).mono ?_; rintro e w1 ⟨rfl, rfl⟩)
  refine (Qt.take_ok HD0.out.bk env kind 1 (by omega)).mono ?_
  rintro e w2 ⟨he, hbk2, hf2⟩
  rw [HT.out] at he
  subst he
  have HD2 := hid (HD0.out.book hbk2 hf2)
  have HF2 : Hid (Bf base x w w2) := (Bf.of_below HB0.out HF.out).trans (Bd.book_f hf2)
  have HQ2 : Hid (w2.heap[w.heap.size]? = some (hO 0 0)) := hf2.kept _ _ HQ0.out rfl
  clear hbk2 hf2 HD0 HB0 HQ0 o0 HT
  go_wp2_with fail
  refine (HBl.out w2 HD2.out).mono ?_
  rintro e w3 ⟨rfl, hb3⟩
  have hd3 := HD2.out.below hb3
  have hq3 : w3.heap[w.heap.size]? = some (hO 0 0) := bkb HQ2.out hb3
  have HD4 : Hid (Bd (w3.alloc (.cells #[i64 0, i64 0] 43)) base b x t (Qt.tkS s env kind 1) T L R) := hd3.below (bl1 w3 _)
  have HF4 : Hid (Bf base x w (w3.alloc (.cells #[i64 0, i64 0] 43))) := (HF2.out.trans (Bf.of_below hb3 HD2.out.lo')).trans (Bf.of_below (bl1 w3 _) hd3.lo')
  have HQ4 : Hid ((w3.alloc (.cells #[i64 0, i64 0] 43)).heap[w.heap.size]? = some (hO 0 0)) := bka hq3 _
  have HZ4 : Hid ((w3.alloc (.cells #[i64 0, i64 0] 43)).heap[w3.heap.size]? = some (hO 0 0)) := hlx w3 _
  have hZ : w.heap.size < w3.heap.size := blk_lt hq3
  clear hd3 hb3 hq3 HD2 HF2 HQ2 HBl
  go_upto_region 7 with fail
  generalize w3.alloc (.cells #[i64 0, i64 0] 43) = w4 at *
  generalize w3.heap.size = Z at *
  have o0 : w4.cell? ⟨b, 0, none⟩ = some (pq x.kb) := bkc HD4.out.row 0
  go_wp2_with fail
  refine (Qt.give_ok HD4.out.bk env kind 1 (by omega)).mono ?_
  rintro e w7 ⟨rfl, hbk7, hf7⟩
  have HD7 : Hid (Bd w7 base b x t (Qt.gvS (Qt.tkS s env kind 1) env kind 1) T L R) := HD4.out.book hbk7 hf7
  have HF7 : Hid (Bf base x w w7) := HF4.out.trans (Bd.book_f hf7)
  have HQ7 : Hid (w7.heap[w.heap.size]? = some (hO 0 0)) := hf7.kept _ _ HQ4.out rfl
  have HZ7 : Hid (w7.heap[Z]? = some (hO 0 0)) := hf7.kept _ _ HZ4.out rfl
  clear hbk7 hf7 HD4 HF4 HQ4 HZ4 o0
  generalize Qt.gvE (Qt.at_ (Qt.tkS s env kind 1) env) kind 1 = ge at *
  go_upto_region 8 with fail
  have HS : Hid (Sq2 Z (hO 0 0) Z (hO 0 0) w7.drew) := ⟨HZ7.out, HZ7.out⟩
  refine wp_region_noPanic ?_
  refine wrl (Sq2 Z (hO 0 0) Z (hO 0 0)) 5 (by kernel_rfl) ?_
  refine wk 0 43 (i64 0) rfl HS.out (fun W hW => by have q0 := bkc hW.one 0; have q1 := bkc hW.one 1; go_simp) ?_
  refine wk 1 44 (.agg #[i64 0, i64 0]) rfl HS.out (fun W hW => by have q0 := bkc hW.one 0; have q1 := bkc hW.one 1; go_simp) ?_
  refine wk 2 45 (i64 5) rfl HS.out (fun W hW => by have q0 := bkc hW.one 0; have q1 := bkc hW.one 1; go_simp) ?_
  simp only [Act.put, sA, sZ, sS]
  have z0 : w7.cell? ⟨w.heap.size, 0, none⟩ = some (i64 0) := bkc HQ7.out 0
  have z1 : w7.cell? ⟨w.heap.size, 1, none⟩ = some (i64 0) := bkc HQ7.out 1
  have zf : ∀ j, w7.frozen? ⟨w.heap.size, j, none⟩ = false := bkf HQ7.out
  refine wo 3 rfl (fun K hK => ?_)
  go_simp
  refine hK.out _ _ (fun _ => HS.out) ?_
  clear hK K
  have ht8 := touch_set2 w7 w.heap.size 0 1 (i64 0) (i64 0)
  have HZ8 : Hid (((w7.setCell ⟨w.heap.size, 0, none⟩ (i64 0)).setCell ⟨w.heap.size, 1, none⟩ (i64 0)).heap[Z]? = some (hO 0 0)) := (ht8.block _ (blk_lt HZ7.out) (by omega)).trans HZ7.out
  have HQ8 : Hid (((w7.setCell ⟨w.heap.size, 0, none⟩ (i64 0)).setCell ⟨w.heap.size, 1, none⟩ (i64 0)).heap[w.heap.size]? = some (hO 0 0)) := Cp.set2 HQ7.out _ _
  have HD8 : Hid (Bd ((w7.setCell ⟨w.heap.size, 0, none⟩ (i64 0)).setCell ⟨w.heap.size, 1, none⟩ (i64 0)) base b x t (Qt.gvS (Qt.tkS s env kind 1) env kind 1) T L R) := HD7.out.box HQ7.out (fun j hj => by have := hgs j hj; omega) ht8
  have HF8 : Hid (Bf base x w ((w7.setCell ⟨w.heap.size, 0, none⟩ (i64 0)).setCell ⟨w.heap.size, 1, none⟩ (i64 0))) := HF7.out.box (Nat.le_refl _) HF.out ht8
  clear ht8
  refine wo 4 rfl (fun K hK => ?_)
  go_simp
  refine hK.out _ _ (fun _ => ⟨HZ8.out, HZ8.out⟩) ?_
  clear hK K
  refine wo 5 rfl (fun K hK => ?_)
  go_simp
  refine hK.out _ _ (fun h => absurd rfl h) ?_
  clear hK K
  refine wdd ?_
  refine NoPanic.normal ?_
  clear HS z0 z1 zf HQ7 HZ7 HD7 HF7
  generalize ((w7.setCell ⟨w.heap.size, 0, none⟩ (i64 0)).setCell ⟨w.heap.size, 1, none⟩ (i64 0)) = W8 at *
  go_wp2_with fail
  exact bodyPost_ret (results_mid Try.results20 rfl rfl rfl (Cp.load42 (W := W8.drew) HQ8.out)) rfl ⟨rfl, HD8.out.drew, HF8.out.drew⟩
end Go.Proofs.Ytnknhencobhjdaa
