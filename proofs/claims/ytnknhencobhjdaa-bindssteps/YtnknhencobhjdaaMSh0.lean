/- No statement here. -/
import Derived.Test.YtnknhencobhjdaaMBi
set_option maxRecDepth 100000
namespace Go.Proofs.Ytnknhencobhjdaa
open Go.ChangeShapes Go.WideShapes Go.ChangeAt Go.RowKit Go.Deep Go.ChangeMaps Go.MapKept
open Go.Proofs.Ytnknhencobhjdaa.Cp (pq hid bl1 hO cO zC looks_nil)
open Go.Proofs.Ytnknhencobhjdaa.Qt (zT badB)
structure Sq3 (p : Nat) (P : Obj) (q : Nat) (Q : Obj) (r : Nat) (R : Obj) (W : World) : Prop where
  one : W.heap[p]? = some P
  two : W.heap[q]? = some Q
  three : W.heap[r]? = some R
theorem Sq3.below {p q r : Nat} {P Q R : Obj} {W W' : World} (h : Sq3 p P q Q r R W) (hb : Below W.heap.size W W') : Sq3 p P q Q r R W' := ⟨bkb h.one hb, bkb h.two hb, bkb h.three hb⟩
theorem Sq3.touch {p q r : Nat} {P Q R : Obj} {W W' : World} {z : Nat} (h : Sq3 p P q Q r R W) (hb : Touch z W W') (hp : p ≠ z) (hq : q ≠ z) (hr : r ≠ z) : Sq3 p P q Q r R W' := ⟨(hb.block _ (blk_lt h.one) hp).trans h.one, (hb.block _ (blk_lt h.two) hq).trans h.two, (hb.block _ (blk_lt h.three) hr).trans h.three⟩
theorem Sq3.set4 {p q r : Nat} {P Q R : Obj} {W : World} (h : Sq3 p P q Q r R W) {Z : Nat} (hp : p ≠ Z) (hq : q ≠ Z) (hr : r ≠ Z) (c : Cp.Cp) : Sq3 p P q Q r R ((((W.setCell ⟨Z, 0, none⟩ (i64 c.env)).setCell ⟨Z, 1, none⟩ (i64 c.kind)).setCell ⟨Z, 2, none⟩ (i64 c.num)).setCell ⟨Z, 3, none⟩ (i64 c.rts)) :=
  h.touch (((((Touch.refl Z W).setCell rfl _).setCell rfl _).setCell rfl _).setCell rfl _) hp hq hr
set_option maxHeartbeats 3200000 in
theorem share_stale (w : World) (v0 vb vt vm s0 s1 s2 : Value) (env sl gn tt rights ce ck cn cr : Int) (hE : Ent w v0 (bdO vb vt vm s0 s1 s2)) (hL : Cp.Looks w vt env sl gn ⟨ce, ck, cn, cr⟩ 90) : Calls Try.prog 24 #[v0, i64 env, .agg #[i64 sl, i64 gn], i64 tt, i64 rights] w fun e w' => e = .returned (.tuple #[.agg #[i64 0, i64 0], i64 90]) ∧ Below w.heap.size w w' := by
  have HL := hid hL
  have HE := hid hE
  have HB0 := bel_two w (.cells #[i64 sl, i64 gn] 43) (.cells #[i64 0, i64 0] 43)
  have HQ0 : Hid (((w.alloc (.cells #[i64 sl, i64 gn] 43)).alloc (.cells #[i64 0, i64 0] 43)).heap[w.heap.size]? = some (hO sl gn)) := bka (hlx w _) _
  have HT0 : Hid (((w.alloc (.cells #[i64 sl, i64 gn] 43)).alloc (.cells #[i64 0, i64 0] 43)).heap[w.heap.size + 1]? = some (hO 0 0)) := by
    have := hlx (w.alloc (hO sl gn)) (hO 0 0)
    rwa [show (w.alloc (hO sl gn)).heap.size = w.heap.size + 1 by simp] at this
  clear hL hE
  go_enter Try.func24, Try.ntmps24
  go_wp2_with fail
  refine (HE.out _ HB0.out).mono ?_
  rintro e w1 ⟨B, rfl, hb1, hO1⟩
  have HB1 : Hid (Below w.heap.size w w1) := bth HB0 hb1
  have HQ1 : Hid (w1.heap[w.heap.size]? = some (hO sl gn)) := bkb HQ0.out hb1
  have HT1 : Hid (w1.heap[w.heap.size + 1]? = some (hO 0 0)) := bkb HT0.out hb1
  have HO1 : Hid (w1.heap[B]? = some (bdO vb vt vm s0 s1 s2)) := hO1
  clear hb1 hO1 HB0 HQ0 HT0 HE
  go_upto_region 2 with fail
  have HS : Hid (Sq3 w.heap.size (hO sl gn) B (bdO vb vt vm s0 s1 s2) (w.heap.size + 1) (hO 0 0) w1.drew) := ⟨HQ1.out, HO1.out, HT1.out⟩
  refine wp_region_noPanic ?_
  refine wrl (Sq3 w.heap.size (hO sl gn) B (bdO vb vt vm s0 s1 s2) (w.heap.size + 1) (hO 0 0)) 12 (by kernel_rfl) ?_
  refine wk 0 21 (pq B) rfl HS.out (fun W hW => by have q0 := bkc hW.one 0; have q1 := bkc hW.one 1; have o1 := bkc hW.two 1; go_simp) ?_
  refine wk 1 22 (pq B) rfl HS.out (fun W hW => by have q0 := bkc hW.one 0; have q1 := bkc hW.one 1; have o1 := bkc hW.two 1; go_simp) ?_
  refine wk 2 23 (.pointer (some ⟨B, 1, none⟩)) rfl HS.out (fun W hW => by have q0 := bkc hW.one 0; have q1 := bkc hW.one 1; have o1 := bkc hW.two 1; go_simp) ?_
  refine wk 3 24 (vt) rfl HS.out (fun W hW => by have q0 := bkc hW.one 0; have q1 := bkc hW.one 1; have o1 := bkc hW.two 1; go_simp) ?_
  refine wk 4 25 (i64 env) rfl HS.out (fun W hW => by have q0 := bkc hW.one 0; have q1 := bkc hW.one 1; have o1 := bkc hW.two 1; go_simp) ?_
  refine wk 5 26 (.agg #[i64 sl, i64 gn]) rfl HS.out (fun W hW => by have q0 := bkc hW.one 0; have q1 := bkc hW.one 1; have o1 := bkc hW.two 1; go_simp) ?_
  simp only [Act.put, sA, sZ, sS]
  refine wpL_two 6 10 rfl rfl (by kernel_rfl) (by rfl) (by rfl) (fun K hK => ?_) (fun K hK => ?_)
  go_simp
  refine (HL.out w1.drew HB1.out.drew).mono ?_
  rintro e w2 ⟨rfl, hb2⟩
  have hb2' : Below w1.heap.size w1 w2 := below_drew hb2
  have HS2 : Hid (Sq3 w.heap.size (hO sl gn) B (bdO vb vt vm s0 s1 s2) (w.heap.size + 1) (hO 0 0) w2) := ⟨bkb HQ1.out hb2', bkb HO1.out hb2', bkb HT1.out hb2'⟩
  have HBx : Hid (Below w.heap.size w w2) := bth HB1 hb2'
  clear hb2 hb2'
  unfold Cp.Cp.v
  go_simp
  refine hK.out _ _ (fun _ => HS2.out) ?_
  clear hK K
  refine wk 7 20 (.tuple #[.agg #[i64 ce, i64 ck, i64 cn, i64 cr], i64 90]) rfl HS2.out (fun W hW => by go_simp) ?_
  refine wk 8 28 (.agg #[i64 ce, i64 ck, i64 cn, i64 cr]) rfl HS2.out (fun W hW => by go_simp) ?_
  refine wk 9 29 (i64 90) rfl HS2.out (fun W hW => by go_simp) ?_
  simp only [Act.put, sA, sZ, sS]
  refine wo 10 rfl (fun K hK => ?_)
  go_simp
  refine hK.out _ _ (fun _ => HS2.out.below (bl1 w2 _)) ?_
  clear hK K
  refine wo 11 rfl (fun K hK => ?_)
  go_simp
  refine hK.out _ _ (fun _ => HS2.out.below (bl1 w2 _)) ?_
  clear hK K
  refine wo 12 rfl (fun K hK => ?_)
  go_simp
  refine hK.out _ _ (fun h => absurd rfl h) ?_
  clear hK K
  refine wdd ?_
  refine NoPanic.normal ?_
  have HBu : Hid (Below w.heap.size w (w2.alloc (cO ⟨ce, ck, cn, cr⟩))) := bth HBx (bl1 w2 _)
  have HZu : Hid ((w2.alloc (cO ⟨ce, ck, cn, cr⟩)).heap[w2.heap.size]? = some (cO ⟨ce, ck, cn, cr⟩)) := hlx w2 _
  have HSu : Hid (Sq3 w.heap.size (hO sl gn) B (bdO vb vt vm s0 s1 s2) (w.heap.size + 1) (hO 0 0) (w2.alloc (cO ⟨ce, ck, cn, cr⟩))) := HS2.out.below (bl1 w2 _)
  have hZw : w.heap.size ≤ w2.heap.size := HBx.out.size
  unfold cO at HBu HZu HSu
  clear HS HS2 HBx HL HB1 HQ1 HO1 HT1
  generalize w2.alloc (.cells #[i64 ce, i64 ck, i64 cn, i64 cr] 108) = U at *
  generalize w2.heap.size = Z at *
  rotate_left
  go_simp
  refine hK.out _ _ (fun _ => HS.out.below (bl1 w1.drew _)) ?_
  clear hK K
  have HSA : Hid (Sq3 w.heap.size (hO sl gn) B (bdO vb vt vm s0 s1 s2) (w.heap.size + 1) (hO 0 0) (w1.alloc (cO zC)).drew) := ⟨bka HQ1.out _, bka HO1.out _, bka HT1.out _⟩
  have HZA : Hid ((w1.alloc (cO zC)).drew.heap[w1.heap.size]? = some (cO zC)) := hlx w1 _
  have HBA : Hid (Below w.heap.size w (w1.alloc (cO zC)).drew) := (HB1.out.alloc HB1.out.size _).drew
  have hZw : w.heap.size ≤ w1.heap.size := HB1.out.size
  unfold cO zC at HSA HZA HBA
  generalize (w1.alloc (.cells #[i64 0, i64 0, i64 0, i64 0] 108)).drew = V at *
  have hBZ : B < w1.heap.size := blk_lt HO1.out
  have hQZ : w.heap.size < w1.heap.size := blk_lt HQ1.out
  have hTZ : w.heap.size + 1 < w1.heap.size := blk_lt HT1.out
  generalize w1.heap.size = Z at *
  clear HS HB1 HQ1 HO1 HT1 w1
  refine wo 6 rfl (fun K hK => ?_)
  go_simp
  refine (HL.out V HBA.out).mono ?_
  rintro e w2 ⟨rfl, hb2⟩
  have HS2 : Hid (Sq3 w.heap.size (hO sl gn) B (bdO vb vt vm s0 s1 s2) (w.heap.size + 1) (hO 0 0) w2) := HSA.out.below hb2
  have HBx : Hid (Below w.heap.size w w2) := bth HBA hb2
  have HZ2 : Hid (w2.heap[Z]? = some (.cells #[i64 0, i64 0, i64 0, i64 0] 108)) := bkb HZA.out hb2
  clear hb2 HSA HBA HZA
  unfold Cp.Cp.v
  go_simp
  refine hK.out _ _ (fun _ => HS2.out) ?_
  clear hK K
  refine wk 7 20 (.tuple #[.agg #[i64 ce, i64 ck, i64 cn, i64 cr], i64 90]) rfl HS2.out (fun W hW => by go_simp) ?_
  refine wk 8 28 (.agg #[i64 ce, i64 ck, i64 cn, i64 cr]) rfl HS2.out (fun W hW => by go_simp) ?_
  refine wk 9 29 (i64 90) rfl HS2.out (fun W hW => by go_simp) ?_
  simp only [Act.put, sA, sZ, sS]
  have z0 : w2.cell? ⟨Z, 0, none⟩ = some (i64 0) := bkc HZ2.out 0
  have z1 : w2.cell? ⟨Z, 1, none⟩ = some (i64 0) := bkc HZ2.out 1
  have z2 : w2.cell? ⟨Z, 2, none⟩ = some (i64 0) := bkc HZ2.out 2
  have z3 : w2.cell? ⟨Z, 3, none⟩ = some (i64 0) := bkc HZ2.out 3
  have zf : ∀ j, w2.frozen? ⟨Z, j, none⟩ = false := bkf HZ2.out
  have HSu : Hid (Sq3 w.heap.size (hO sl gn) B (bdO vb vt vm s0 s1 s2) (w.heap.size + 1) (hO 0 0) ((((w2.setCell ⟨Z, 0, none⟩ (i64 ce)).setCell ⟨Z, 1, none⟩ (i64 ck)).setCell ⟨Z, 2, none⟩ (i64 cn)).setCell ⟨Z, 3, none⟩ (i64 cr))) := HS2.out.set4 (by omega) (by omega) (by omega) ⟨ce, ck, cn, cr⟩
  have HZu : Hid (((((w2.setCell ⟨Z, 0, none⟩ (i64 ce)).setCell ⟨Z, 1, none⟩ (i64 ck)).setCell ⟨Z, 2, none⟩ (i64 cn)).setCell ⟨Z, 3, none⟩ (i64 cr)).heap[Z]? = some (cO ⟨ce, ck, cn, cr⟩)) := Cp.set4 (d := zC) HZ2.out ⟨ce, ck, cn, cr⟩
  have HBu : Hid (Below w.heap.size w ((((w2.setCell ⟨Z, 0, none⟩ (i64 ce)).setCell ⟨Z, 1, none⟩ (i64 ck)).setCell ⟨Z, 2, none⟩ (i64 cn)).setCell ⟨Z, 3, none⟩ (i64 cr))) := Cp.bel4 HBx.out hZw ⟨ce, ck, cn, cr⟩
  refine wo 11 rfl (fun K hK => ?_)
  go_simp
  refine hK.out _ _ (fun _ => HSu.out) ?_
  clear hK K
  refine wo 12 rfl (fun K hK => ?_)
  go_simp
  refine hK.out _ _ (fun h => absurd rfl h) ?_
  clear hK K
  refine wdd ?_
  refine NoPanic.normal ?_
  clear HS2 HBx HZ2 z0 z1 z2 z3 zf HL hBZ hQZ hTZ
  unfold cO at HZu
  generalize ((((w2.setCell ⟨Z, 0, none⟩ (i64 ce)).setCell ⟨Z, 1, none⟩ (i64 ck)).setCell ⟨Z, 2, none⟩ (i64 cn)).setCell ⟨Z, 3, none⟩ (i64 cr)) = U at *
  all_goals
    have z0 : U.cell? ⟨w.heap.size + 1, 0, none⟩ = some (i64 0) := bkc HSu.out.three 0
    have z1 : U.cell? ⟨w.heap.size + 1, 1, none⟩ = some (i64 0) := bkc HSu.out.three 1
    have zf : ∀ j, U.frozen? ⟨w.heap.size + 1, j, none⟩ = false := bkf HSu.out.three
    go_wp2_with fail
    exact bodyPost_ret (Cp.results_cell Try.results24 rfl rfl (Cp.load42 (Cp.set2 HSu.out.three _ _))) rfl ⟨rfl, Cp.bel2 HBu.out (by omega) _ _⟩
end Go.Proofs.Ytnknhencobhjdaa
