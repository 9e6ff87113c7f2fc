/- No statement here. -/
import Derived.Test.YtnknhencobhjdaaMSk1
set_option maxRecDepth 100000
namespace Go.Proofs.Ytnknhencobhjdaa
open Go.ChangeShapes Go.WideShapes Go.ChangeAt Go.RowKit Go.Deep Go.ChangeMaps Go.MapKept
open Go.Proofs.Ytnknhencobhjdaa.Cp (pq hid bl1 hO cO zC looks_nil)
open Go.Proofs.Ytnknhencobhjdaa.Qt (zT badB)
set_option maxHeartbeats 3200000 in
theorem owner_ok {w : World} {base b : Nat} {x : Bx} {t : Qt.T} {s : Qt.St} {T : List Cp.Pl} {L : Ls} {R : Nat → List Hn} (h : Bd w base b x t s T L R) (kind n r0 r1 : Int) (hrt : ∀ W, Below w.heap.size w W → Calls Try.prog 15 #[pq b, i64 kind, i64 n] W fun e w' => e = .returned (.agg #[i64 r0, i64 r1]) ∧ Below W.heap.size W w') : Calls Try.prog 14 #[pq b, i64 kind, i64 n] w fun e w' => e = .returned (i64 ((bil L (r0, r1)).getD (0, 0)).1) ∧ Below w.heap.size w w' := by
  obtain ⟨s0, hs0⟩ : ∃ s0, slV (x.g 0) (R 0).length = s0 := ⟨_, rfl⟩
  obtain ⟨s1, hs1⟩ : ∃ s1, slV (x.g 1) (R 1).length = s1 := ⟨_, rfl⟩
  obtain ⟨s2, hs2⟩ : ∃ s2, slV (x.g 2) (R 2).length = s2 := ⟨_, rfl⟩
  have hrow := h.row
  rw [hs0, hs1, hs2] at hrow
  have HS : Hid (SqM b (bdO (pq x.kb) (pq x.kt) (.map (some x.km)) s0 s1 s2) b (bdO (pq x.kb) (pq x.kt) (.map (some x.km)) s0 s1 s2) x.km L w.drew) := ⟨hrow, hrow, h.mp.kept rfl⟩
  obtain ⟨d0, hd0⟩ : ∃ d0, ((bil L (r0, r1)).getD (0, 0)).1 = d0 := ⟨_, rfl⟩
  obtain ⟨d1, hd1⟩ : ∃ d1, ((bil L (r0, r1)).getD (0, 0)).2 = d1 := ⟨_, rfl⟩
  have HLk : Hid (∀ W, MapIs W x.km L → (Instr.lookup 68 (.map (some x.km)) (.agg #[i64 r0, i64 r1]) false).run Try.prog W = .ok (.agg #[i64 d0, i64 d1]) W) := fun W hW => by
    have := hW.lkup (r0, r1) false
    simp only [bilR, hV, hd0, hd1] at this
    exact this
  rw [hd0]
  have HRt := hid hrt
  clear h hrt hrow hs0 hs1 hs2 hd0 hd1
  go_enter Try.func14, Try.ntmps14
  go_upto_region 1 with fail
  refine wp_region_noPanic ?_
  refine wrl (SqM b (bdO (pq x.kb) (pq x.kt) (.map (some x.km)) s0 s1 s2) b (bdO (pq x.kb) (pq x.kt) (.map (some x.km)) s0 s1 s2) x.km L) 11 (by kernel_rfl) ?_
  refine wk 0 7 (pq b) rfl HS.out (fun W hW => by go_simp) ?_
  refine wk 5 12 (pq b) rfl HS.out (fun W hW => by go_simp) ?_
  refine wk 6 13 (i64 kind) rfl HS.out (fun W hW => by go_simp) ?_
  refine wk 7 14 (i64 n) rfl HS.out (fun W hW => by go_simp) ?_
  simp only [Act.put, sA, sZ, sS]
  refine wo 1 rfl (fun K hK => ?_)
  go_simp
  refine (orEmpty_ok _ b).mono ?_
  rintro e w1 ⟨rfl, hw1⟩
  subst hw1
  go_simp
  refine hK.out _ _ (fun _ => HS.out) ?_
  clear hK K
  refine wk 2 9 (pq b) rfl HS.out (fun W hW => by go_simp) ?_
  refine wk 3 10 (.pointer (some ⟨b, 2, none⟩)) rfl HS.out (fun W hW => by go_simp) ?_
  refine wk 4 11 (.map (some x.km)) rfl HS.out (fun W hW => by have o2 := bkc hW.one 2; go_simp) ?_
  simp only [Act.put, sA, sZ, sS]
  refine wo 8 rfl (fun K hK => ?_)
  go_simp
  refine (HRt.out w.drew (Below.refl _ _).drew).mono ?_
  rintro e w2 ⟨rfl, hb2⟩
  have HS2 : Hid (SqM b (bdO (pq x.kb) (pq x.kt) (.map (some x.km)) s0 s1 s2) b (bdO (pq x.kb) (pq x.kt) (.map (some x.km)) s0 s1 s2) x.km L w2) := HS.out.below hb2
  have HB2 : Hid (Below w.heap.size w w2) := below_drew hb2
  clear hb2
  go_simp
  refine hK.out _ _ (fun _ => HS2.out) ?_
  clear hK K
  refine wk 9 16 (.agg #[i64 d0, i64 d1]) rfl HS2.out (fun W hW => by have lk := HLk.out W hW.map; go_simp) ?_
  refine wk 10 17 (i64 d0) rfl HS2.out (fun W hW => by have fl := fld104 (i64 d0) (i64 d1) W; go_simp) ?_
  simp only [Act.put, sA, sZ, sS]
  refine wo 11 rfl (fun K hK => ?_)
  go_simp
  refine hK.out _ _ (fun h => absurd rfl h) ?_
  clear hK K
  refine wdd ?_
  refine NoPanic.normal ?_
  clear HS HS2 HLk HRt
  go_wp2_with fail
  go_ret
  exact ⟨rfl, HB2.out⟩
end Go.Proofs.Ytnknhencobhjdaa
