/- No statement here. -/
import Derived.Test.YtnknhencobhjdaaMBi
set_option maxRecDepth 100000
namespace Go.Proofs.Ytnknhencobhjdaa
open Go.ChangeShapes Go.WideShapes Go.ChangeAt Go.RowKit Go.Deep Go.ChangeMaps Go.MapKept
open Go.Proofs.Ytnknhencobhjdaa.Cp (pq hid bl1 hO cO zC looks_nil)
open Go.Proofs.Ytnknhencobhjdaa.Qt (zT badB)
set_option maxHeartbeats 1600000 in
theorem bindLowest_full {w : World} {base b : Nat} {x : Bx} {t : Qt.T} {s : Qt.St} {T : List Cp.Pl} {L : Ls} {R : Nat → List Hn} (h : Bd w base b x t s T L R) (hL : L.length ≤ 1000) (env kind : Int) (hc : 42 ≤ cnt L env) : Calls Try.prog 58 #[pq b, i64 env, i64 kind] w fun e w' => e = .returned (.tuple #[i64 0, .agg #[i64 0, i64 0], i64 5]) ∧ Below w.heap.size w w' := by
  have HD0 : Hid (Bd (w.alloc (.cells #[i64 0, i64 0] 43)) base b x t s T L R) := h.below (bl1 w _)
  have HB0 : Hid (Below w.heap.size w (w.alloc (.cells #[i64 0, i64 0] 43))) := bl1 w _
  have HQ0 : Hid ((w.alloc (.cells #[i64 0, i64 0] 43)).heap[w.heap.size]? = some (hO 0 0)) := hlx w _
  have HLe := hid hL
  have hcI : (42 : Int) ≤ ((cnt L env : Nat) : Int) := by omega
  clear h hL
  go_enter Try.func58, Try.ntmps58
  go_wp2_with fail
  refine (paid_ok HD0.out HLe.out env).mono ?_
  rintro e w1 ⟨rfl, hb1⟩
  have HB1 := bth HB0 hb1
  have HQ1 : Hid (w1.heap[w.heap.size]? = some (hO 0 0)) := bkb HQ0.out hb1
  have z0 : w1.cell? ⟨w.heap.size, 0, none⟩ = some (i64 0) := bkc HQ1.out 0
  have z1 : w1.cell? ⟨w.heap.size, 1, none⟩ = some (i64 0) := bkc HQ1.out 1
  have zf : ∀ j, w1.frozen? ⟨w.heap.size, j, none⟩ = false := bkf HQ1.out
  clear hb1 HD0 HB0 HQ0 HLe hc
  generalize cnt L env = c at *
  go_wp2_with fail
  exact bodyPost_ret (results_mid Try.results58 rfl rfl rfl (Cp.load42 (Cp.set2 HQ1.out _ _))) rfl ⟨rfl, Cp.bel2 HB1.out (Nat.le_refl _) _ _⟩
set_option maxHeartbeats 1600000 in
theorem bind_no {w : World} {base b : Nat} {x : Bx} {t : Qt.T} {s : Qt.St} {T : List Cp.Pl} {L : Ls} {R : Nat → List Hn} (h : Bd w base b x t s T L R) (env kind e0 : Int) (htk : Qt.tkE (Qt.at_ s env) kind 1 = e0) (hne : ¬ e0 = 0) :
    Calls Try.prog 20 #[pq b, i64 env, i64 kind] w fun e w' => e = .returned (.tuple #[i64 0, .agg #[i64 0, i64 0], i64 e0]) ∧ Bd w' base b x t (Qt.tkS s env kind 1) T L R ∧ Bf base x w w' := by
  have HF : Hid (base ≤ w.heap.size) := h.lo'
  have hgs : ∀ j, j < 3 → x.g j < w.heap.size := fun j hj => blk_lt (h.rt j hj).1
  have HD0 : Hid (Bd (w.alloc (.cells #[i64 0, i64 0] 43)) base b x t s T L R) := h.below (bl1 w _)
  have HB0 : Hid (Below w.heap.size w (w.alloc (.cells #[i64 0, i64 0] 43))) := bl1 w _
  have HQ0 : Hid ((w.alloc (.cells #[i64 0, i64 0] 43)).heap[w.heap.size]? = some (hO 0 0)) := hlx w _
  have HT : Hid (Qt.tkE (Qt.at_ s env) kind 1 = e0) := htk
  clear h htk
  go_enter Try.func20, Try.ntmps20
  go_upto_region 1 with fail
  generalize w.alloc (.cells #[i64 0, i64 0] 43) = W0 at *
  have o0 : W0.cell? ⟨b, 0, none⟩ = some (pq x.kb) := bkc HD0.out.row 0
  go_wp2_with (go_at_call 48; refine (orEmpty_ok _ b).mono ?_; rintro e w1 ⟨rfl, rfl⟩)
  refine (Qt.take_ok HD0.out.bk env kind 1 (by omega)).mono ?_
  rintro e w2 ⟨he, hbk2, hf2⟩
  rw [HT.out] at he
  subst he
  have HD2 := hid (HD0.out.book hbk2 hf2)
  have HF2 : Hid (Bf base x w w2) := (Bf.of_below HB0.out HF.out).trans (Bd.book_f hf2)
  have HQ2 : Hid (w2.heap[w.heap.size]? = some (hO 0 0)) := hf2.kept _ _ HQ0.out rfl
  clear hbk2 hf2 HD0 HB0 HQ0 o0 HT
  have z0 : w2.cell? ⟨w.heap.size, 0, none⟩ = some (i64 0) := bkc HQ2.out 0
  have z1 : w2.cell? ⟨w.heap.size, 1, none⟩ = some (i64 0) := bkc HQ2.out 1
  have zf : ∀ j, w2.frozen? ⟨w.heap.size, j, none⟩ = false := bkf HQ2.out
  go_wp2_with fail
  have ht8 := touch_set2 w2 w.heap.size 0 1 (i64 0) (i64 0)
  exact bodyPost_ret (results_mid Try.results20 rfl rfl rfl (Cp.load42 (Cp.set2 HQ2.out _ _))) rfl ⟨rfl, HD2.out.box HQ2.out (fun j hj => by have := hgs j hj; omega) ht8, HF2.out.box (Nat.le_refl _) HF.out ht8⟩
end Go.Proofs.Ytnknhencobhjdaa
