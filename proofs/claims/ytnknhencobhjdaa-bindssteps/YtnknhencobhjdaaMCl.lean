/- No statement here. -/
import Derived.Test.YtnknhencobhjdaaMSk1
set_option maxRecDepth 100000
namespace Go.Proofs.Ytnknhencobhjdaa
open Go.ChangeShapes Go.WideShapes Go.ChangeAt Go.RowKit Go.Deep Go.ChangeMaps Go.MapKept
open Go.Proofs.Ytnknhencobhjdaa.Cp (pq hid bl1 hO cO zC looks_nil)
open Go.Proofs.Ytnknhencobhjdaa.Qt (zT badB)
set_option maxHeartbeats 1600000 in
theorem close_no {w : World} {base b : Nat} {x : Bx} {t : Qt.T} {s : Qt.St} {T : List Cp.Pl} {L : Ls} {R : Nat → List Hn} (h : Bd w base b x t s T L R) (env e0 : Int) (he : Qt.clE (Qt.at_ s env) = e0) (hne : ¬ e0 = 0) : Calls Try.prog 22 #[pq b, i64 env] w fun e w' => e = .returned (i64 e0) ∧ Bd w' base b x t (Qt.clS s env) T L R ∧ Bf base x w w' := by
  have HD := hid h
  have HE := hid he
  have o0 : w.cell? ⟨b, 0, none⟩ = some (pq x.kb) := bkc h.row 0
  clear h he
  go_enter Try.func22, Try.ntmps22
  go_wp2_with (go_at_call 48; refine (orEmpty_ok _ b).mono ?_; rintro e w1 ⟨rfl, hw1⟩; replace hw1 := hw1.symm; subst hw1)
  refine (Qt.close_ok HD.out.bk env).mono ?_
  rintro e w2 ⟨he2, hbk2, hf2⟩
  rw [HE.out] at he2
  subst he2
  have HD2 := hid (HD.out.book hbk2 hf2)
  have HF2 : Hid (Bf base x w w2) := Bd.book_f hf2
  clear hbk2 hf2 o0 HD HE
  go_wp2_with fail
  go_ret
  exact ⟨rfl, HD2.out, HF2.out⟩
set_option maxHeartbeats 1600000 in
theorem close_ok {w : World} {base b : Nat} {x : Bx} {t : Qt.T} {s : Qt.St} {T T' : List Cp.Pl} {L : Ls} {R : Nat → List Hn} (h : Bd w base b x t s T L R) (env nd : Int) (he : Qt.clE (Qt.at_ s env) = 0) (hd : ∀ W, Cp.Tb W base x.kt T → Calls Try.prog 60 #[pq x.kt, i64 env] W fun e w' => e = .returned (i64 nd) ∧ Cp.Tb w' base x.kt T' ∧ Touch x.kt W w') : Calls Try.prog 22 #[pq b, i64 env] w fun e w' => e = .returned (i64 0) ∧ Bd w' base b x t (Qt.clS s env) T' (strL T' L) (mixR R (strL T' L) 3) ∧ Bf base x w w' := by
  have HD := hid h
  have HE := hid he
  have HDe := hid hd
  have o0 : w.cell? ⟨b, 0, none⟩ = some (pq x.kb) := bkc h.row 0
  clear h he hd
  go_enter Try.func22, Try.ntmps22
  go_wp2_with (go_at_call 48; refine (orEmpty_ok _ b).mono ?_; rintro e w1 ⟨rfl, hw1⟩; replace hw1 := hw1.symm; subst hw1)
  refine (Qt.close_ok HD.out.bk env).mono ?_
  rintro e w2 ⟨he2, hbk2, hf2⟩
  rw [HE.out] at he2
  subst he2
  have HD2 := hid (HD.out.book hbk2 hf2)
  have HF2 : Hid (Bf base x w w2) := Bd.book_f hf2
  clear hbk2 hf2 o0 HD HE
  have o1 : w2.cell? ⟨b, 1, none⟩ = some (pq x.kt) := bkc HD2.out.row 1
  go_wp2_with fail
  refine (HDe.out w2 HD2.out.tb).mono ?_
  rintro e w3 ⟨rfl, ht3, hto3⟩
  have HD3 := hid (HD2.out.table ht3 hto3)
  have HF3 : Hid (Bf base x w w3) := HF2.out.trans (HD2.out.table_f hto3)
  clear ht3 hto3 HD2 HF2 o1 HDe
  go_wp2_with fail
  refine (strike_ok HD3.out).mono ?_
  rintro e w4 ⟨rfl, hd4, hf4⟩
  have HD4 := hid hd4
  have HF4 : Hid (Bf base x w w4) := HF3.out.trans hf4
  clear hd4 hf4 HD3 HF3
  go_wp2_with fail
  go_ret
  exact ⟨rfl, HD4.out, HF4.out⟩
set_option maxHeartbeats 1600000 in
theorem revoke_ok {w : World} {base B : Nat} {x : Bx} {t : Qt.T} {s : Qt.St} {T T' : List Cp.Pl} {L : Ls} {R : Nat → List Hn} (h : Bd w base B x t s T L R) (env sl gn nd ex : Int) (hd : ∀ W, Cp.Tb W base x.kt T → Calls Try.prog 63 #[pq x.kt, i64 env, .agg #[i64 sl, i64 gn]] W fun e w' => e = .returned (.tuple #[i64 nd, i64 ex]) ∧ Cp.Tb w' base x.kt T' ∧ Touch x.kt W w') : Calls Try.prog 25 #[pq B, i64 env, .agg #[i64 sl, i64 gn]] w fun e w' => e = .returned (.tuple #[i64 nd, i64 ex]) ∧ Bd w' base B x t s T' (strL T' L) (mixR R (strL T' L) 3) ∧ Bf base x w w' := by
  have HF : Hid (base ≤ w.heap.size) := h.lo'
  have HD1 : Hid (Bd (w.alloc (.cells #[i64 sl, i64 gn] 43)) base B x t s T L R) := h.below (bl1 w _)
  have HB1 : Hid (Below w.heap.size w (w.alloc (.cells #[i64 sl, i64 gn] 43))) := bl1 w _
  have HQ1 : Hid ((w.alloc (.cells #[i64 sl, i64 gn] 43)).heap[w.heap.size]? = some (hO sl gn)) := hlx w _
  have HDe := hid hd
  clear h hd
  go_enter Try.func25, Try.ntmps25
  go_upto_region 1 with fail
  generalize w.alloc (.cells #[i64 sl, i64 gn] 43) = wz at *
  go_upto_region 2 with (go_at_call 48; refine (orEmpty_ok _ B).mono ?_; rintro e w1 ⟨rfl, hw2⟩; subst hw2)
  obtain ⟨s0, hs0⟩ : ∃ s0, slV (x.g 0) (R 0).length = s0 := ⟨_, rfl⟩
  obtain ⟨s1, hs1⟩ : ∃ s1, slV (x.g 1) (R 1).length = s1 := ⟨_, rfl⟩
  obtain ⟨s2, hs2⟩ : ∃ s2, slV (x.g 2) (R 2).length = s2 := ⟨_, rfl⟩
  have hrow := HD1.out.row
  rw [hs0, hs1, hs2] at hrow
  have HS : Hid (Sq2 w.heap.size (hO sl gn) B (bdO (pq x.kb) (pq x.kt) (.map (some x.km)) s0 s1 s2) w1.drew) := ⟨HQ1.out, hrow⟩
  have nk1 : w.heap.size ≠ x.kt := ne_of_obj HQ1.out HD1.out.tb.row (by simp)
  have nk2 : B ≠ x.kt := ne_of_obj HD1.out.row HD1.out.tb.row (by simp)
  clear hrow hs0 hs1 hs2
  refine wp_region_noPanic ?_
  refine wrl (Sq2 w.heap.size (hO sl gn) B (bdO (pq x.kb) (pq x.kt) (.map (some x.km)) s0 s1 s2)) 11 (by kernel_rfl) ?_
  refine wk 0 13 (pq B) rfl HS.out (fun W hW => by go_simp) ?_
  refine wk 1 14 (pq B) rfl HS.out (fun W hW => by go_simp) ?_
  refine wk 2 15 (.pointer (some ⟨B, 1, none⟩)) rfl HS.out (fun W hW => by go_simp) ?_
  refine wk 3 16 (pq x.kt) rfl HS.out (fun W hW => by have q0 := bkc hW.one 0; have q1 := bkc hW.one 1; have o1 := bkc hW.two 1; go_simp) ?_
  refine wk 4 17 (i64 env) rfl HS.out (fun W hW => by go_simp) ?_
  refine wk 5 18 (.agg #[i64 sl, i64 gn]) rfl HS.out (fun W hW => by have q0 := bkc hW.one 0; have q1 := bkc hW.one 1; have o1 := bkc hW.two 1; go_simp) ?_
  simp only [Act.put, sA, sZ, sS]
  refine wo 6 rfl (fun K hK => ?_)
  go_simp
  refine (HDe.out w1.drew HD1.out.drew.tb).mono ?_
  rintro e w2 ⟨rfl, ht2, hto2⟩
  have HS2 : Hid (Sq2 w.heap.size (hO sl gn) B (bdO (pq x.kb) (pq x.kt) (.map (some x.km)) s0 s1 s2) w2) := ⟨(hto2.block _ (blk_lt HS.out.one) nk1).trans HS.out.one, (hto2.block _ (blk_lt HS.out.two) nk2).trans HS.out.two⟩
  have HD2 : Hid (Bd w2 base B x t s T' L R) := HD1.out.drew.table ht2 hto2
  have HF2 : Hid (Bf base x w w2) := (Bf.of_below HB1.out HF.out).trans (Bf.of_drew (HD1.out.drew.table_f hto2))
  clear ht2 hto2
  go_simp
  refine hK.out _ _ (fun _ => HS2.out) ?_
  clear hK K
  refine wk 7 12 (.tuple #[i64 nd, i64 ex]) rfl HS2.out (fun W hW => by go_simp) ?_
  refine wk 8 20 (i64 nd) rfl HS2.out (fun W hW => by go_simp) ?_
  refine wk 9 21 (i64 ex) rfl HS2.out (fun W hW => by go_simp) ?_
  simp only [Act.put, sA, sZ, sS]
  refine wo 10 rfl (fun K hK => ?_)
  go_simp
  refine hK.out _ _ (fun _ => HS2.out) ?_
  clear hK K
  refine wo 11 rfl (fun K hK => ?_)
  go_simp
  refine hK.out _ _ (fun h => absurd rfl h) ?_
  clear hK K
  refine wdd ?_
  refine NoPanic.normal ?_
  clear HS HS2 HD1 HB1 HQ1 nk1 nk2 HDe
  go_wp2_with fail
  refine (strike_ok HD2.out).mono ?_
  rintro e w4 ⟨rfl, hd4, hf4⟩
  have HD4 := hid hd4
  have HF4 : Hid (Bf base x w w4) := HF2.out.trans hf4
  clear hd4 hf4 HD2 HF2
  go_wp2_with fail
  go_ret2
  exact ⟨rfl, HD4.out, HF4.out⟩
end Go.Proofs.Ytnknhencobhjdaa
