/- No statement here. -/
import Derived.Test.YtnknhencobhjdaaMNm
import Derived.Test.YtnknhencobhjdaaMNum
set_option maxRecDepth 100000
namespace Go.Proofs.Ytnknhencobhjdaa
open Go.ChangeShapes Go.WideShapes Go.ChangeAt Go.RowKit Go.Deep Go.ChangeMaps Go.MapKept
open Go.Proofs.Ytnknhencobhjdaa.Cp (pq hid bl1 hO cO zC looks_nil)
open Go.Proofs.Ytnknhencobhjdaa.Qt (zT badB)
set_option maxHeartbeats 3200000 in
theorem number_kind (w : World) (v0 vb vt vm s0 s1 s2 : Value) (env sl gn ce ck cn cr kind : Int) (hE : Ent w v0 (bdO vb vt vm s0 s1 s2)) (hL : Cp.Looks w vt env sl gn ⟨ce, ck, cn, cr⟩ 0) (hk : ¬ ck = kind) : Calls Try.prog 16 #[v0, i64 env, .agg #[i64 sl, i64 gn], i64 kind] w fun e w' => e = .returned (.tuple #[i64 0, i64 1]) ∧ Below w.heap.size w w' := by
  have HL := hid hL
  have HE := hid hE
  have HB0 : Hid (Below w.heap.size w (w.alloc (.cells #[i64 sl, i64 gn] 43))) := bl1 w _
  have HQ0 : Hid ((w.alloc (.cells #[i64 sl, i64 gn] 43)).heap[w.heap.size]? = some (hO sl gn)) := hlx w _
  clear hL hE
  go_enter Try.func16, Try.ntmps16
  go_wp2_with fail
  refine (HE.out _ HB0.out).mono ?_
  rintro e w1 ⟨B, rfl, hb1, hO1⟩
  have HB1 : Hid (Below w.heap.size w w1) := bth HB0 hb1
  have HQ1 : Hid (w1.heap[w.heap.size]? = some (hO sl gn)) := bkb HQ0.out hb1
  have HO1 : Hid (w1.heap[B]? = some (bdO vb vt vm s0 s1 s2)) := hO1
  clear hb1 hO1 HB0 HQ0 HE
  go_upto_region 2 with fail
  have HS : Hid (Sq2 w.heap.size (hO sl gn) B (bdO vb vt vm s0 s1 s2) w1.drew) := ⟨HQ1.out, HO1.out⟩
  refine wp_region_noPanic ?_
  refine wrl (Sq2 w.heap.size (hO sl gn) B (bdO vb vt vm s0 s1 s2)) 12 (by kernel_rfl) ?_
  refine wk 0 16 (pq B) rfl HS.out (fun W hW => by have q0 := bkc hW.one 0; have q1 := bkc hW.one 1; have o1 := bkc hW.two 1; go_simp) ?_
  refine wk 1 17 (pq B) rfl HS.out (fun W hW => by have q0 := bkc hW.one 0; have q1 := bkc hW.one 1; have o1 := bkc hW.two 1; go_simp) ?_
  refine wk 2 18 (.pointer (some ⟨B, 1, none⟩)) rfl HS.out (fun W hW => by have q0 := bkc hW.one 0; have q1 := bkc hW.one 1; have o1 := bkc hW.two 1; go_simp) ?_
  refine wk 3 19 (vt) rfl HS.out (fun W hW => by have q0 := bkc hW.one 0; have q1 := bkc hW.one 1; have o1 := bkc hW.two 1; go_simp) ?_
  refine wk 4 20 (i64 env) rfl HS.out (fun W hW => by have q0 := bkc hW.one 0; have q1 := bkc hW.one 1; have o1 := bkc hW.two 1; go_simp) ?_
  refine wk 5 21 (.agg #[i64 sl, i64 gn]) rfl HS.out (fun W hW => by have q0 := bkc hW.one 0; have q1 := bkc hW.one 1; have o1 := bkc hW.two 1; go_simp) ?_
  simp only [Act.put, sA, sZ, sS]
  refine wpL_two 6 10 rfl rfl (by kernel_rfl) (by rfl) (by rfl) (fun K hK => ?_) (fun K hK => ?_)
  go_simp
  refine (HL.out w1.drew HB1.out.drew).mono ?_
  rintro e w2 ⟨rfl, hb2⟩
  have hb2' : Below w1.heap.size w1 w2 := below_drew hb2
  have HS2 : Hid (Sq2 w.heap.size (hO sl gn) B (bdO vb vt vm s0 s1 s2) w2) := ⟨bkb HQ1.out hb2', bkb HO1.out hb2'⟩
  have HBx : Hid (Below w.heap.size w w2) := bth HB1 hb2'
  clear hb2 hb2'
  unfold Cp.Cp.v
  go_simp
  refine hK.out _ _ (fun _ => HS2.out) ?_
  clear hK K
  refine wk 7 15 (.tuple #[.agg #[i64 ce, i64 ck, i64 cn, i64 cr], i64 0]) rfl HS2.out (fun W hW => by go_simp) ?_
  refine wk 8 23 (.agg #[i64 ce, i64 ck, i64 cn, i64 cr]) rfl HS2.out (fun W hW => by go_simp) ?_
  refine wk 9 24 (i64 0) rfl HS2.out (fun W hW => by go_simp) ?_
  simp only [Act.put, sA, sZ, sS]
  refine wo 10 rfl (fun K hK => ?_)
  go_simp
  refine hK.out _ _ (fun _ => HS2.out.below (bl1 w2 _)) ?_
  clear hK K
  refine wo 11 rfl (fun K hK => ?_)
  go_simp
  refine hK.out _ _ (fun _ => HS2.out.below (bl1 w2 _)) ?_
  clear hK K
  refine wo 12 rfl (fun K hK => ?_)
  go_simp
  refine hK.out _ _ (fun h => absurd rfl h) ?_
  clear hK K
  refine wdd ?_
  refine NoPanic.normal ?_
  have HBu : Hid (Below w.heap.size w (w2.alloc (cO ⟨ce, ck, cn, cr⟩))) := bth HBx (bl1 w2 _)
  have HZu : Hid ((w2.alloc (cO ⟨ce, ck, cn, cr⟩)).heap[w2.heap.size]? = some (cO ⟨ce, ck, cn, cr⟩)) := hlx w2 _
  have HSu : Hid (Sq2 w.heap.size (hO sl gn) B (bdO vb vt vm s0 s1 s2) (w2.alloc (cO ⟨ce, ck, cn, cr⟩))) := HS2.out.below (bl1 w2 _)
  have hZw : w.heap.size ≤ w2.heap.size := HBx.out.size
  unfold cO at HBu HZu HSu
  clear HS HS2 HBx HL HB1 HQ1 HO1
  generalize w2.alloc (.cells #[i64 ce, i64 ck, i64 cn, i64 cr] 108) = U at *
  generalize w2.heap.size = Z at *
  rotate_left
  go_simp
  refine hK.out _ _ (fun _ => HS.out.below (bl1 w1.drew _)) ?_
  clear hK K
  have HSA : Hid (Sq2 w.heap.size (hO sl gn) B (bdO vb vt vm s0 s1 s2) (w1.alloc (cO zC)).drew) := ⟨bka HQ1.out _, bka HO1.out _⟩
  have HZA : Hid ((w1.alloc (cO zC)).drew.heap[w1.heap.size]? = some (cO zC)) := hlx w1 _
  have HBA : Hid (Below w.heap.size w (w1.alloc (cO zC)).drew) := (HB1.out.alloc HB1.out.size _).drew
  have hZw : w.heap.size ≤ w1.heap.size := HB1.out.size
  unfold cO zC at HSA HZA HBA
  generalize (w1.alloc (.cells #[i64 0, i64 0, i64 0, i64 0] 108)).drew = V at *
  have hBZ : B < w1.heap.size := blk_lt HO1.out
  have hQZ : w.heap.size < w1.heap.size := blk_lt HQ1.out
  skip
  generalize w1.heap.size = Z at *
  clear HS HB1 HQ1 HO1 w1
  refine wo 6 rfl (fun K hK => ?_)
  go_simp
  refine (HL.out V HBA.out).mono ?_
  rintro e w2 ⟨rfl, hb2⟩
  have HS2 : Hid (Sq2 w.heap.size (hO sl gn) B (bdO vb vt vm s0 s1 s2) w2) := HSA.out.below hb2
  have HBx : Hid (Below w.heap.size w w2) := bth HBA hb2
  have HZ2 : Hid (w2.heap[Z]? = some (.cells #[i64 0, i64 0, i64 0, i64 0] 108)) := bkb HZA.out hb2
  clear hb2 HSA HBA HZA
  unfold Cp.Cp.v
  go_simp
  refine hK.out _ _ (fun _ => HS2.out) ?_
  clear hK K
  refine wk 7 15 (.tuple #[.agg #[i64 ce, i64 ck, i64 cn, i64 cr], i64 0]) rfl HS2.out (fun W hW => by go_simp) ?_
  refine wk 8 23 (.agg #[i64 ce, i64 ck, i64 cn, i64 cr]) rfl HS2.out (fun W hW => by go_simp) ?_
  refine wk 9 24 (i64 0) rfl HS2.out (fun W hW => by go_simp) ?_
  simp only [Act.put, sA, sZ, sS]
  have z0 : w2.cell? ⟨Z, 0, none⟩ = some (i64 0) := bkc HZ2.out 0
  have z1 : w2.cell? ⟨Z, 1, none⟩ = some (i64 0) := bkc HZ2.out 1
  have z2 : w2.cell? ⟨Z, 2, none⟩ = some (i64 0) := bkc HZ2.out 2
  have z3 : w2.cell? ⟨Z, 3, none⟩ = some (i64 0) := bkc HZ2.out 3
  have zf : ∀ j, w2.frozen? ⟨Z, j, none⟩ = false := bkf HZ2.out
  have HSu : Hid (Sq2 w.heap.size (hO sl gn) B (bdO vb vt vm s0 s1 s2) ((((w2.setCell ⟨Z, 0, none⟩ (i64 ce)).setCell ⟨Z, 1, none⟩ (i64 ck)).setCell ⟨Z, 2, none⟩ (i64 cn)).setCell ⟨Z, 3, none⟩ (i64 cr))) := HS2.out.set4 (by omega) (by omega) ⟨ce, ck, cn, cr⟩
  have HZu : Hid (((((w2.setCell ⟨Z, 0, none⟩ (i64 ce)).setCell ⟨Z, 1, none⟩ (i64 ck)).setCell ⟨Z, 2, none⟩ (i64 cn)).setCell ⟨Z, 3, none⟩ (i64 cr)).heap[Z]? = some (cO ⟨ce, ck, cn, cr⟩)) := Cp.set4 (d := zC) HZ2.out ⟨ce, ck, cn, cr⟩
  have HBu : Hid (Below w.heap.size w ((((w2.setCell ⟨Z, 0, none⟩ (i64 ce)).setCell ⟨Z, 1, none⟩ (i64 ck)).setCell ⟨Z, 2, none⟩ (i64 cn)).setCell ⟨Z, 3, none⟩ (i64 cr))) := Cp.bel4 HBx.out hZw ⟨ce, ck, cn, cr⟩
  refine wo 11 rfl (fun K hK => ?_)
  go_simp
  refine hK.out _ _ (fun _ => HSu.out) ?_
  clear hK K
  refine wo 12 rfl (fun K hK => ?_)
  go_simp
  refine hK.out _ _ (fun h => absurd rfl h) ?_
  clear hK K
  refine wdd ?_
  refine NoPanic.normal ?_
  clear HS2 HBx HZ2 z0 z1 z2 z3 zf HL hBZ hQZ
  unfold cO at HZu
  generalize ((((w2.setCell ⟨Z, 0, none⟩ (i64 ce)).setCell ⟨Z, 1, none⟩ (i64 ck)).setCell ⟨Z, 2, none⟩ (i64 cn)).setCell ⟨Z, 3, none⟩ (i64 cr)) = U at *
  all_goals
    have z1 : U.cell? ⟨Z, 1, none⟩ = some (i64 ck) := bkc HZu.out 1
    go_wp2_with fail
    go_ret2
    exact ⟨rfl, HBu.out⟩
set_option maxHeartbeats 3200000 in
theorem number_no (w : World) (v0 vb vt vm s0 s1 s2 : Value) (env sl gn ce ck cn cr y : Int) (hE : Ent w v0 (bdO vb vt vm s0 s1 s2)) (hL : Cp.Looks w vt env sl gn ⟨ce, ck, cn, cr⟩ 0) (hy : ¬ y = 0) (hC : ∀ W, Below w.heap.size w W → Calls Try.prog 51 #[vt, i64 env, .agg #[i64 sl, i64 gn], i64 1] W fun e w' => e = .returned (i64 y) ∧ Below W.heap.size W w') : Calls Try.prog 16 #[v0, i64 env, .agg #[i64 sl, i64 gn], i64 ck] w fun e w' => e = .returned (.tuple #[i64 0, i64 y]) ∧ Below w.heap.size w w' := by
  have HL := hid hL
  have HE := hid hE
  have HB0 : Hid (Below w.heap.size w (w.alloc (.cells #[i64 sl, i64 gn] 43))) := bl1 w _
  have HQ0 : Hid ((w.alloc (.cells #[i64 sl, i64 gn] 43)).heap[w.heap.size]? = some (hO sl gn)) := hlx w _
  clear hL hE
  have HCk := hid hC
  clear hC
  go_enter Try.func16, Try.ntmps16
  go_wp2_with fail
  refine (HE.out _ HB0.out).mono ?_
  rintro e w1 ⟨B, rfl, hb1, hO1⟩
  have HB1 : Hid (Below w.heap.size w w1) := bth HB0 hb1
  have HQ1 : Hid (w1.heap[w.heap.size]? = some (hO sl gn)) := bkb HQ0.out hb1
  have HO1 : Hid (w1.heap[B]? = some (bdO vb vt vm s0 s1 s2)) := hO1
  clear hb1 hO1 HB0 HQ0 HE
  go_upto_region 2 with fail
  have HS : Hid (Sq2 w.heap.size (hO sl gn) B (bdO vb vt vm s0 s1 s2) w1.drew) := ⟨HQ1.out, HO1.out⟩
  refine wp_region_noPanic ?_
  refine wrl (Sq2 w.heap.size (hO sl gn) B (bdO vb vt vm s0 s1 s2)) 12 (by kernel_rfl) ?_
  refine wk 0 16 (pq B) rfl HS.out (fun W hW => by have q0 := bkc hW.one 0; have q1 := bkc hW.one 1; have o1 := bkc hW.two 1; go_simp) ?_
  refine wk 1 17 (pq B) rfl HS.out (fun W hW => by have q0 := bkc hW.one 0; have q1 := bkc hW.one 1; have o1 := bkc hW.two 1; go_simp) ?_
  refine wk 2 18 (.pointer (some ⟨B, 1, none⟩)) rfl HS.out (fun W hW => by have q0 := bkc hW.one 0; have q1 := bkc hW.one 1; have o1 := bkc hW.two 1; go_simp) ?_
  refine wk 3 19 (vt) rfl HS.out (fun W hW => by have q0 := bkc hW.one 0; have q1 := bkc hW.one 1; have o1 := bkc hW.two 1; go_simp) ?_
  refine wk 4 20 (i64 env) rfl HS.out (fun W hW => by have q0 := bkc hW.one 0; have q1 := bkc hW.one 1; have o1 := bkc hW.two 1; go_simp) ?_
  refine wk 5 21 (.agg #[i64 sl, i64 gn]) rfl HS.out (fun W hW => by have q0 := bkc hW.one 0; have q1 := bkc hW.one 1; have o1 := bkc hW.two 1; go_simp) ?_
  simp only [Act.put, sA, sZ, sS]
  refine wpL_two 6 10 rfl rfl (by kernel_rfl) (by rfl) (by rfl) (fun K hK => ?_) (fun K hK => ?_)
  go_simp
  refine (HL.out w1.drew HB1.out.drew).mono ?_
  rintro e w2 ⟨rfl, hb2⟩
  have hb2' : Below w1.heap.size w1 w2 := below_drew hb2
  have HS2 : Hid (Sq2 w.heap.size (hO sl gn) B (bdO vb vt vm s0 s1 s2) w2) := ⟨bkb HQ1.out hb2', bkb HO1.out hb2'⟩
  have HBx : Hid (Below w.heap.size w w2) := bth HB1 hb2'
  clear hb2 hb2'
  unfold Cp.Cp.v
  go_simp
  refine hK.out _ _ (fun _ => HS2.out) ?_
  clear hK K
  refine wk 7 15 (.tuple #[.agg #[i64 ce, i64 ck, i64 cn, i64 cr], i64 0]) rfl HS2.out (fun W hW => by go_simp) ?_
  refine wk 8 23 (.agg #[i64 ce, i64 ck, i64 cn, i64 cr]) rfl HS2.out (fun W hW => by go_simp) ?_
  refine wk 9 24 (i64 0) rfl HS2.out (fun W hW => by go_simp) ?_
  simp only [Act.put, sA, sZ, sS]
  refine wo 10 rfl (fun K hK => ?_)
  go_simp
  refine hK.out _ _ (fun _ => HS2.out.below (bl1 w2 _)) ?_
  clear hK K
  refine wo 11 rfl (fun K hK => ?_)
  go_simp
  refine hK.out _ _ (fun _ => HS2.out.below (bl1 w2 _)) ?_
  clear hK K
  refine wo 12 rfl (fun K hK => ?_)
  go_simp
  refine hK.out _ _ (fun h => absurd rfl h) ?_
  clear hK K
  refine wdd ?_
  refine NoPanic.normal ?_
  have HBu : Hid (Below w.heap.size w (w2.alloc (cO ⟨ce, ck, cn, cr⟩))) := bth HBx (bl1 w2 _)
  have HZu : Hid ((w2.alloc (cO ⟨ce, ck, cn, cr⟩)).heap[w2.heap.size]? = some (cO ⟨ce, ck, cn, cr⟩)) := hlx w2 _
  have HSu : Hid (Sq2 w.heap.size (hO sl gn) B (bdO vb vt vm s0 s1 s2) (w2.alloc (cO ⟨ce, ck, cn, cr⟩))) := HS2.out.below (bl1 w2 _)
  have hZw : w.heap.size ≤ w2.heap.size := HBx.out.size
  unfold cO at HBu HZu HSu
  clear HS HS2 HBx HL HB1 HQ1 HO1
  generalize w2.alloc (.cells #[i64 ce, i64 ck, i64 cn, i64 cr] 108) = U at *
  generalize w2.heap.size = Z at *
  rotate_left
  go_simp
  refine hK.out _ _ (fun _ => HS.out.below (bl1 w1.drew _)) ?_
  clear hK K
  have HSA : Hid (Sq2 w.heap.size (hO sl gn) B (bdO vb vt vm s0 s1 s2) (w1.alloc (cO zC)).drew) := ⟨bka HQ1.out _, bka HO1.out _⟩
  have HZA : Hid ((w1.alloc (cO zC)).drew.heap[w1.heap.size]? = some (cO zC)) := hlx w1 _
  have HBA : Hid (Below w.heap.size w (w1.alloc (cO zC)).drew) := (HB1.out.alloc HB1.out.size _).drew
  have hZw : w.heap.size ≤ w1.heap.size := HB1.out.size
  unfold cO zC at HSA HZA HBA
  generalize (w1.alloc (.cells #[i64 0, i64 0, i64 0, i64 0] 108)).drew = V at *
  have hBZ : B < w1.heap.size := blk_lt HO1.out
  have hQZ : w.heap.size < w1.heap.size := blk_lt HQ1.out
  skip
  generalize w1.heap.size = Z at *
  clear HS HB1 HQ1 HO1 w1
  refine wo 6 rfl (fun K hK => ?_)
  go_simp
  refine (HL.out V HBA.out).mono ?_
  rintro e w2 ⟨rfl, hb2⟩
  have HS2 : Hid (Sq2 w.heap.size (hO sl gn) B (bdO vb vt vm s0 s1 s2) w2) := HSA.out.below hb2
  have HBx : Hid (Below w.heap.size w w2) := bth HBA hb2
  have HZ2 : Hid (w2.heap[Z]? = some (.cells #[i64 0, i64 0, i64 0, i64 0] 108)) := bkb HZA.out hb2
  clear hb2 HSA HBA HZA
  unfold Cp.Cp.v
  go_simp
  refine hK.out _ _ (fun _ => HS2.out) ?_
  clear hK K
  refine wk 7 15 (.tuple #[.agg #[i64 ce, i64 ck, i64 cn, i64 cr], i64 0]) rfl HS2.out (fun W hW => by go_simp) ?_
  refine wk 8 23 (.agg #[i64 ce, i64 ck, i64 cn, i64 cr]) rfl HS2.out (fun W hW => by go_simp) ?_
  refine wk 9 24 (i64 0) rfl HS2.out (fun W hW => by go_simp) ?_
  simp only [Act.put, sA, sZ, sS]
  have z0 : w2.cell? ⟨Z, 0, none⟩ = some (i64 0) := bkc HZ2.out 0
  have z1 : w2.cell? ⟨Z, 1, none⟩ = some (i64 0) := bkc HZ2.out 1
  have z2 : w2.cell? ⟨Z, 2, none⟩ = some (i64 0) := bkc HZ2.out 2
  have z3 : w2.cell? ⟨Z, 3, none⟩ = some (i64 0) := bkc HZ2.out 3
  have zf : ∀ j, w2.frozen? ⟨Z, j, none⟩ = false := bkf HZ2.out
  have HSu : Hid (Sq2 w.heap.size (hO sl gn) B (bdO vb vt vm s0 s1 s2) ((((w2.setCell ⟨Z, 0, none⟩ (i64 ce)).setCell ⟨Z, 1, none⟩ (i64 ck)).setCell ⟨Z, 2, none⟩ (i64 cn)).setCell ⟨Z, 3, none⟩ (i64 cr))) := HS2.out.set4 (by omega) (by omega) ⟨ce, ck, cn, cr⟩
  have HZu : Hid (((((w2.setCell ⟨Z, 0, none⟩ (i64 ce)).setCell ⟨Z, 1, none⟩ (i64 ck)).setCell ⟨Z, 2, none⟩ (i64 cn)).setCell ⟨Z, 3, none⟩ (i64 cr)).heap[Z]? = some (cO ⟨ce, ck, cn, cr⟩)) := Cp.set4 (d := zC) HZ2.out ⟨ce, ck, cn, cr⟩
  have HBu : Hid (Below w.heap.size w ((((w2.setCell ⟨Z, 0, none⟩ (i64 ce)).setCell ⟨Z, 1, none⟩ (i64 ck)).setCell ⟨Z, 2, none⟩ (i64 cn)).setCell ⟨Z, 3, none⟩ (i64 cr))) := Cp.bel4 HBx.out hZw ⟨ce, ck, cn, cr⟩
  refine wo 11 rfl (fun K hK => ?_)
  go_simp
  refine hK.out _ _ (fun _ => HSu.out) ?_
  clear hK K
  refine wo 12 rfl (fun K hK => ?_)
  go_simp
  refine hK.out _ _ (fun h => absurd rfl h) ?_
  clear hK K
  refine wdd ?_
  refine NoPanic.normal ?_
  clear HS2 HBx HZ2 z0 z1 z2 z3 zf HL hBZ hQZ
  unfold cO at HZu
  generalize ((((w2.setCell ⟨Z, 0, none⟩ (i64 ce)).setCell ⟨Z, 1, none⟩ (i64 ck)).setCell ⟨Z, 2, none⟩ (i64 cn)).setCell ⟨Z, 3, none⟩ (i64 cr)) = U at *
  all_goals
    have z1 : U.cell? ⟨Z, 1, none⟩ = some (i64 ck) := bkc HZu.out 1
    go_upto_region 7 with fail
    clear z1
    have HS : Hid (Sq2 w.heap.size (hO sl gn) B (bdO vb vt vm s0 s1 s2) U.drew) := ⟨HSu.out.one, HSu.out.two⟩
    refine wp_region_noPanic ?_
    refine wrl (Sq2 w.heap.size (hO sl gn) B (bdO vb vt vm s0 s1 s2)) 7 (by kernel_rfl) ?_
    refine wk 0 32 (pq B) rfl HS.out (fun W hW => by go_simp) ?_
    refine wk 1 33 (pq B) rfl HS.out (fun W hW => by go_simp) ?_
    refine wk 2 34 (.pointer (some ⟨B, 1, none⟩)) rfl HS.out (fun W hW => by go_simp) ?_
    refine wk 3 35 (vt) rfl HS.out (fun W hW => by have q0 := bkc hW.one 0; have q1 := bkc hW.one 1; have o1 := bkc hW.two 1; go_simp) ?_
    refine wk 4 36 (i64 env) rfl HS.out (fun W hW => by go_simp) ?_
    refine wk 5 37 (.agg #[i64 sl, i64 gn]) rfl HS.out (fun W hW => by have q0 := bkc hW.one 0; have q1 := bkc hW.one 1; have o1 := bkc hW.two 1; go_simp) ?_
    simp only [Act.put, sA, sZ, sS]
    refine wo 6 rfl (fun K hK => ?_)
    go_simp
    refine (HCk.out U.drew HBu.out.drew).mono ?_
    rintro e w3 ⟨rfl, hb3⟩
    have hb3' : Below U.heap.size U w3 := below_drew hb3
    have HS3 : Hid (Sq2 w.heap.size (hO sl gn) B (bdO vb vt vm s0 s1 s2) w3) := HSu.out.below hb3'
    have HB3 : Hid (Below w.heap.size w w3) := bth HBu hb3'
    clear hb3 hb3'
    go_simp
    refine hK.out _ _ (fun _ => HS3.out) ?_
    clear hK K
    refine wo 7 rfl (fun K hK => ?_)
    go_simp
    refine hK.out _ _ (fun h => absurd rfl h) ?_
    clear hK K
    refine wdd ?_
    refine NoPanic.normal ?_
    go_wp2_with fail
    go_ret2
    exact ⟨rfl, HB3.out⟩
end Go.Proofs.Ytnknhencobhjdaa
