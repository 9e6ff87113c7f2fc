/- No statement here. -/
import Derived.Test.YtnknhencobhjdaaMSk1
set_option maxRecDepth 100000
namespace Go.Proofs.Ytnknhencobhjdaa
open Go.ChangeShapes Go.WideShapes Go.ChangeAt Go.RowKit Go.Deep Go.ChangeMaps Go.MapKept
open Go.Proofs.Ytnknhencobhjdaa.Cp (pq hid bl1 hO cO zC looks_nil)
open Go.Proofs.Ytnknhencobhjdaa.Qt (zT badB)
set_option maxHeartbeats 3200000 in
theorem free_stale (w : World) (v0 vb vt vm s0 s1 s2 : Value) (env sl gn ce ck cn cr : Int) (hE : Ent w v0 (bdO vb vt vm s0 s1 s2)) (hL : Cp.Looks w vt env sl gn ⟨ce, ck, cn, cr⟩ 90) : Calls Try.prog 19 #[v0, i64 env, .agg #[i64 sl, i64 gn]] w fun e w' => e = .returned (i64 90) ∧ Below w.heap.size w w' := by
  have HL := hid hL
  have HE := hid hE
  have HB0 : Hid (Below w.heap.size w (w.alloc (.cells #[i64 sl, i64 gn] 43))) := bl1 w _
  have HQ0 : Hid ((w.alloc (.cells #[i64 sl, i64 gn] 43)).heap[w.heap.size]? = some (hO sl gn)) := hlx w _
  clear hL hE
  go_enter Try.func19, Try.ntmps19
  go_wp2_with fail
  refine (HE.out _ HB0.out).mono ?_
  rintro e w1 ⟨B, rfl, hb1, hO1⟩
  have HB1 : Hid (Below w.heap.size w w1) := bth HB0 hb1
  have HQ1 : Hid (w1.heap[w.heap.size]? = some (hO sl gn)) := bkb HQ0.out hb1
  have HO1 : Hid (w1.heap[B]? = some (bdO vb vt vm s0 s1 s2)) := hO1
  clear hb1 hO1 HB0 HQ0 HE
  go_upto_region 2 with fail
  have HS : Hid (Sq2 w.heap.size (hO sl gn) B (bdO vb vt vm s0 s1 s2) w1.drew) := ⟨HQ1.out, HO1.out⟩
  refine wp_region_noPanic ?_
  refine wrl (Sq2 w.heap.size (hO sl gn) B (bdO vb vt vm s0 s1 s2)) 12 (by kernel_rfl) ?_
  refine wk 0 12 (pq B) rfl HS.out (fun W hW => by have q0 := bkc hW.one 0; have q1 := bkc hW.one 1; have o1 := bkc hW.two 1; go_simp) ?_
  refine wk 1 13 (pq B) rfl HS.out (fun W hW => by have q0 := bkc hW.one 0; have q1 := bkc hW.one 1; have o1 := bkc hW.two 1; go_simp) ?_
  refine wk 2 14 (.pointer (some ⟨B, 1, none⟩)) rfl HS.out (fun W hW => by have q0 := bkc hW.one 0; have q1 := bkc hW.one 1; have o1 := bkc hW.two 1; go_simp) ?_
  refine wk 3 15 (vt) rfl HS.out (fun W hW => by have q0 := bkc hW.one 0; have q1 := bkc hW.one 1; have o1 := bkc hW.two 1; go_simp) ?_
  refine wk 4 16 (i64 env) rfl HS.out (fun W hW => by have q0 := bkc hW.one 0; have q1 := bkc hW.one 1; have o1 := bkc hW.two 1; go_simp) ?_
  refine wk 5 17 (.agg #[i64 sl, i64 gn]) rfl HS.out (fun W hW => by have q0 := bkc hW.one 0; have q1 := bkc hW.one 1; have o1 := bkc hW.two 1; go_simp) ?_
  simp only [Act.put, sA, sZ, sS]
  refine wpL_two 6 10 rfl rfl (by kernel_rfl) (by rfl) (by rfl) (fun K hK => ?_) (fun K hK => ?_)
  go_simp
  refine (HL.out w1.drew HB1.out.drew).mono ?_
  rintro e w2 ⟨rfl, hb2⟩
  have hb2' : Below w1.heap.size w1 w2 := below_drew hb2
  have HS2 : Hid (Sq2 w.heap.size (hO sl gn) B (bdO vb vt vm s0 s1 s2) w2) := ⟨bkb HQ1.out hb2', bkb HO1.out hb2'⟩
  have HBx : Hid (Below w.heap.size w w2) := bth HB1 hb2'
  clear hb2 hb2'
  unfold Cp.Cp.v
  go_simp
  refine hK.out _ _ (fun _ => HS2.out) ?_
  clear hK K
  refine wk 7 11 (.tuple #[.agg #[i64 ce, i64 ck, i64 cn, i64 cr], i64 90]) rfl HS2.out (fun W hW => by go_simp) ?_
  refine wk 8 19 (.agg #[i64 ce, i64 ck, i64 cn, i64 cr]) rfl HS2.out (fun W hW => by go_simp) ?_
  refine wk 9 20 (i64 90) rfl HS2.out (fun W hW => by go_simp) ?_
  simp only [Act.put, sA, sZ, sS]
  refine wo 10 rfl (fun K hK => ?_)
  go_simp
  refine hK.out _ _ (fun _ => HS2.out.below (bl1 w2 _)) ?_
  clear hK K
  refine wo 11 rfl (fun K hK => ?_)
  go_simp
  refine hK.out _ _ (fun _ => HS2.out.below (bl1 w2 _)) ?_
  clear hK K
  refine wo 12 rfl (fun K hK => ?_)
  go_simp
  refine hK.out _ _ (fun h => absurd rfl h) ?_
  clear hK K
  refine wdd ?_
  refine NoPanic.normal ?_
  have HBu : Hid (Below w.heap.size w (w2.alloc (cO ⟨ce, ck, cn, cr⟩))) := bth HBx (bl1 w2 _)
  have HZu : Hid ((w2.alloc (cO ⟨ce, ck, cn, cr⟩)).heap[w2.heap.size]? = some (cO ⟨ce, ck, cn, cr⟩)) := hlx w2 _
  have HSu : Hid (Sq2 w.heap.size (hO sl gn) B (bdO vb vt vm s0 s1 s2) (w2.alloc (cO ⟨ce, ck, cn, cr⟩))) := HS2.out.below (bl1 w2 _)
  have hZw : w.heap.size ≤ w2.heap.size := HBx.out.size
  unfold cO at HBu HZu HSu
  clear HS HS2 HBx HL HB1 HQ1 HO1
  generalize w2.alloc (.cells #[i64 ce, i64 ck, i64 cn, i64 cr] 108) = U at *
  generalize w2.heap.size = Z at *
  rotate_left
  go_simp
  refine hK.out _ _ (fun _ => HS.out.below (bl1 w1.drew _)) ?_
  clear hK K
  have HSA : Hid (Sq2 w.heap.size (hO sl gn) B (bdO vb vt vm s0 s1 s2) (w1.alloc (cO zC)).drew) := ⟨bka HQ1.out _, bka HO1.out _⟩
  have HZA : Hid ((w1.alloc (cO zC)).drew.heap[w1.heap.size]? = some (cO zC)) := hlx w1 _
  have HBA : Hid (Below w.heap.size w (w1.alloc (cO zC)).drew) := (HB1.out.alloc HB1.out.size _).drew
  have hZw : w.heap.size ≤ w1.heap.size := HB1.out.size
  unfold cO zC at HSA HZA HBA
  generalize (w1.alloc (.cells #[i64 0, i64 0, i64 0, i64 0] 108)).drew = V at *
  have hBZ : B < w1.heap.size := blk_lt HO1.out
  have hQZ : w.heap.size < w1.heap.size := blk_lt HQ1.out
  skip
  generalize w1.heap.size = Z at *
  clear HS HB1 HQ1 HO1 w1
  refine wo 6 rfl (fun K hK => ?_)
  go_simp
  refine (HL.out V HBA.out).mono ?_
  rintro e w2 ⟨rfl, hb2⟩
  have HS2 : Hid (Sq2 w.heap.size (hO sl gn) B (bdO vb vt vm s0 s1 s2) w2) := HSA.out.below hb2
  have HBx : Hid (Below w.heap.size w w2) := bth HBA hb2
  have HZ2 : Hid (w2.heap[Z]? = some (.cells #[i64 0, i64 0, i64 0, i64 0] 108)) := bkb HZA.out hb2
  clear hb2 HSA HBA HZA
  unfold Cp.Cp.v
  go_simp
  refine hK.out _ _ (fun _ => HS2.out) ?_
  clear hK K
  refine wk 7 11 (.tuple #[.agg #[i64 ce, i64 ck, i64 cn, i64 cr], i64 90]) rfl HS2.out (fun W hW => by go_simp) ?_
  refine wk 8 19 (.agg #[i64 ce, i64 ck, i64 cn, i64 cr]) rfl HS2.out (fun W hW => by go_simp) ?_
  refine wk 9 20 (i64 90) rfl HS2.out (fun W hW => by go_simp) ?_
  simp only [Act.put, sA, sZ, sS]
  have z0 : w2.cell? ⟨Z, 0, none⟩ = some (i64 0) := bkc HZ2.out 0
  have z1 : w2.cell? ⟨Z, 1, none⟩ = some (i64 0) := bkc HZ2.out 1
  have z2 : w2.cell? ⟨Z, 2, none⟩ = some (i64 0) := bkc HZ2.out 2
  have z3 : w2.cell? ⟨Z, 3, none⟩ = some (i64 0) := bkc HZ2.out 3
  have zf : ∀ j, w2.frozen? ⟨Z, j, none⟩ = false := bkf HZ2.out
  have HSu : Hid (Sq2 w.heap.size (hO sl gn) B (bdO vb vt vm s0 s1 s2) ((((w2.setCell ⟨Z, 0, none⟩ (i64 ce)).setCell ⟨Z, 1, none⟩ (i64 ck)).setCell ⟨Z, 2, none⟩ (i64 cn)).setCell ⟨Z, 3, none⟩ (i64 cr))) := HS2.out.set4 (by omega) (by omega) ⟨ce, ck, cn, cr⟩
  have HZu : Hid (((((w2.setCell ⟨Z, 0, none⟩ (i64 ce)).setCell ⟨Z, 1, none⟩ (i64 ck)).setCell ⟨Z, 2, none⟩ (i64 cn)).setCell ⟨Z, 3, none⟩ (i64 cr)).heap[Z]? = some (cO ⟨ce, ck, cn, cr⟩)) := Cp.set4 (d := zC) HZ2.out ⟨ce, ck, cn, cr⟩
  have HBu : Hid (Below w.heap.size w ((((w2.setCell ⟨Z, 0, none⟩ (i64 ce)).setCell ⟨Z, 1, none⟩ (i64 ck)).setCell ⟨Z, 2, none⟩ (i64 cn)).setCell ⟨Z, 3, none⟩ (i64 cr))) := Cp.bel4 HBx.out hZw ⟨ce, ck, cn, cr⟩
  refine wo 11 rfl (fun K hK => ?_)
  go_simp
  refine hK.out _ _ (fun _ => HSu.out) ?_
  clear hK K
  refine wo 12 rfl (fun K hK => ?_)
  go_simp
  refine hK.out _ _ (fun h => absurd rfl h) ?_
  clear hK K
  refine wdd ?_
  refine NoPanic.normal ?_
  clear HS2 HBx HZ2 z0 z1 z2 z3 zf HL hBZ hQZ
  unfold cO at HZu
  generalize ((((w2.setCell ⟨Z, 0, none⟩ (i64 ce)).setCell ⟨Z, 1, none⟩ (i64 ck)).setCell ⟨Z, 2, none⟩ (i64 cn)).setCell ⟨Z, 3, none⟩ (i64 cr)) = U at *
  all_goals
    go_wp2_with fail
    go_ret
    exact ⟨rfl, HBu.out⟩
set_option maxHeartbeats 3200000 in
theorem free_ok {w : World} {base B : Nat} {x : Bx} {t : Qt.T} {s : Qt.St} {T T' : List Cp.Pl} {L : Ls} {R : Nat → List Hn} (h : Bd w base B x t s T L R) (env sl gn ce ck cn cr nd : Int) (hlk : Cp.lookF T env sl gn = some ⟨ce, ck, cn, cr⟩) (k i : Nat) (hk : k < 3) (hck : ck = (k : Int) + 1) (hcn : cn = (i : Int)) (hri : (R k)[i]? = some (sl, gn))
    (hd : ∀ W, Cp.Tb W base x.kt T → Calls Try.prog 54 #[pq x.kt, i64 env, .agg #[i64 sl, i64 gn]] W fun e w' => e = .returned (.tuple #[i64 nd, i64 0]) ∧ Cp.Tb w' base x.kt T' ∧ Touch x.kt W w') :
    Calls Try.prog 19 #[pq B, i64 env, .agg #[i64 sl, i64 gn]] w fun e w' => e = .returned (i64 0) ∧ Bd w' base B x t (Qt.gvS s env ck 1) T' (strL T' L) (mixR R (strL T' L) 3) ∧ Bf base x w w' := by
  have HD := hid h
  have HF : Hid (base ≤ w.heap.size) := h.lo'
  obtain ⟨vt, hvt⟩ : ∃ vt, pq x.kt = vt := ⟨_, rfl⟩
  obtain ⟨vb, hvb⟩ : ∃ vb, pq x.kb = vb := ⟨_, rfl⟩
  obtain ⟨vm, hvm⟩ : ∃ vm, Value.map (some x.km) = vm := ⟨_, rfl⟩
  obtain ⟨s0, hs0⟩ : ∃ s0, slV (x.g 0) (R 0).length = s0 := ⟨_, rfl⟩
  obtain ⟨s1, hs1⟩ : ∃ s1, slV (x.g 1) (R 1).length = s1 := ⟨_, rfl⟩
  obtain ⟨s2, hs2⟩ : ∃ s2, slV (x.g 2) (R 2).length = s2 := ⟨_, rfl⟩
  have hrow := h.row
  rw [hs0, hs1, hs2, hvt, hvb, hvm] at hrow
  have HL : Hid (Cp.Looks w vt env sl gn ⟨ce, ck, cn, cr⟩ 0) := by
    have := Cp.looks_tb h.tb env sl gn
    rw [hlk] at this
    rw [← hvt]
    exact this
  have HRt : Hid (∀ W, Below w.heap.size w W → Calls Try.prog 15 #[pq B, i64 ck, i64 cn] W fun e w' => e = .returned (.agg #[i64 sl, i64 gn]) ∧ Below W.heap.size W w') := fun W hW => by
    rw [hcn]
    exact root_ok (h.below hW) k hk ck hck i sl gn hri
  have HDp : Hid (∀ W, Cp.Tb W base x.kt T → Calls Try.prog 54 #[vt, i64 env, .agg #[i64 sl, i64 gn]] W fun e w' => e = .returned (.tuple #[i64 nd, i64 0]) ∧ Cp.Tb w' base x.kt T' ∧ Touch x.kt W w') := fun W hW => by rw [← hvt]; exact hd W hW
  have HGv : Hid (∀ W, Qt.Bk W base x.kb t s → Calls Try.prog 55 #[vb, i64 env, i64 ck, i64 1] W fun e w' => e = .returned (i64 (Qt.gvE (Qt.at_ s env) ck 1)) ∧ Qt.Bk w' base x.kb t (Qt.gvS s env ck 1) ∧ Fr base [118, 141] W w') := fun W hW => by rw [← hvb]; exact Qt.give_ok hW env ck 1 (by omega)
  generalize Qt.gvE (Qt.at_ s env) ck 1 = ge at *
  generalize Qt.gvS s env ck 1 = sg at *
  have HB1 : Hid (Below w.heap.size w (w.alloc (.cells #[i64 sl, i64 gn] 43))) := bl1 w _
  have HQ1 : Hid ((w.alloc (.cells #[i64 sl, i64 gn] 43)).heap[w.heap.size]? = some (hO sl gn)) := hlx w _
  have HO1 : Hid ((w.alloc (.cells #[i64 sl, i64 gn] 43)).heap[B]? = some (bdO vb vt vm s0 s1 s2)) := bkb hrow HB1.out
  clear h hlk hck hcn hri hd hrow hs0 hs1 hs2 hvt hvb hvm
  go_enter Try.func19, Try.ntmps19
  go_upto_region 1 with fail
  generalize w.alloc (.cells #[i64 sl, i64 gn] 43) = wz at *
  go_upto_region 2 with (go_at_call 48; refine (orEmpty_ok _ B).mono ?_; rintro e w1 ⟨rfl, hw2⟩; subst hw2)
  have HS : Hid (Sq2 w.heap.size (hO sl gn) B (bdO vb vt vm s0 s1 s2) w1.drew) := ⟨HQ1.out, HO1.out⟩
  refine wp_region_noPanic ?_
  refine wrl (Sq2 w.heap.size (hO sl gn) B (bdO vb vt vm s0 s1 s2)) 12 (by kernel_rfl) ?_
  refine wk 0 12 (pq B) rfl HS.out (fun W hW => by have q0 := bkc hW.one 0; have q1 := bkc hW.one 1; have o1 := bkc hW.two 1; go_simp) ?_
  refine wk 1 13 (pq B) rfl HS.out (fun W hW => by have q0 := bkc hW.one 0; have q1 := bkc hW.one 1; have o1 := bkc hW.two 1; go_simp) ?_
  refine wk 2 14 (.pointer (some ⟨B, 1, none⟩)) rfl HS.out (fun W hW => by have q0 := bkc hW.one 0; have q1 := bkc hW.one 1; have o1 := bkc hW.two 1; go_simp) ?_
  refine wk 3 15 (vt) rfl HS.out (fun W hW => by have q0 := bkc hW.one 0; have q1 := bkc hW.one 1; have o1 := bkc hW.two 1; go_simp) ?_
  refine wk 4 16 (i64 env) rfl HS.out (fun W hW => by have q0 := bkc hW.one 0; have q1 := bkc hW.one 1; have o1 := bkc hW.two 1; go_simp) ?_
  refine wk 5 17 (.agg #[i64 sl, i64 gn]) rfl HS.out (fun W hW => by have q0 := bkc hW.one 0; have q1 := bkc hW.one 1; have o1 := bkc hW.two 1; go_simp) ?_
  simp only [Act.put, sA, sZ, sS]
  refine wpL_two 6 10 rfl rfl (by kernel_rfl) (by rfl) (by rfl) (fun K hK => ?_) (fun K hK => ?_)
  go_simp
  refine (HL.out w1.drew HB1.out.drew).mono ?_
  rintro e w2 ⟨rfl, hb2⟩
  have hb2' : Below w1.heap.size w1 w2 := below_drew hb2
  have HS2 : Hid (Sq2 w.heap.size (hO sl gn) B (bdO vb vt vm s0 s1 s2) w2) := ⟨bkb HQ1.out hb2', bkb HO1.out hb2'⟩
  have HBx : Hid (Below w.heap.size w w2) := bth HB1 hb2'
  clear hb2 hb2'
  unfold Cp.Cp.v
  go_simp
  refine hK.out _ _ (fun _ => HS2.out) ?_
  clear hK K
  refine wk 7 11 (.tuple #[.agg #[i64 ce, i64 ck, i64 cn, i64 cr], i64 0]) rfl HS2.out (fun W hW => by go_simp) ?_
  refine wk 8 19 (.agg #[i64 ce, i64 ck, i64 cn, i64 cr]) rfl HS2.out (fun W hW => by go_simp) ?_
  refine wk 9 20 (i64 0) rfl HS2.out (fun W hW => by go_simp) ?_
  simp only [Act.put, sA, sZ, sS]
  refine wo 10 rfl (fun K hK => ?_)
  go_simp
  refine hK.out _ _ (fun _ => HS2.out.below (bl1 w2 _)) ?_
  clear hK K
  refine wo 11 rfl (fun K hK => ?_)
  go_simp
  refine hK.out _ _ (fun _ => HS2.out.below (bl1 w2 _)) ?_
  clear hK K
  refine wo 12 rfl (fun K hK => ?_)
  go_simp
  refine hK.out _ _ (fun h => absurd rfl h) ?_
  clear hK K
  refine wdd ?_
  refine NoPanic.normal ?_
  have HBu : Hid (Below w.heap.size w (w2.alloc (cO ⟨ce, ck, cn, cr⟩))) := bth HBx (bl1 w2 _)
  have HZu : Hid ((w2.alloc (cO ⟨ce, ck, cn, cr⟩)).heap[w2.heap.size]? = some (cO ⟨ce, ck, cn, cr⟩)) := hlx w2 _
  have HSu : Hid (Sq2 w.heap.size (hO sl gn) B (bdO vb vt vm s0 s1 s2) (w2.alloc (cO ⟨ce, ck, cn, cr⟩))) := HS2.out.below (bl1 w2 _)
  have hZw : w.heap.size ≤ w2.heap.size := HBx.out.size
  unfold cO at HBu HZu HSu
  clear HS HS2 HBx HL HB1 HQ1 HO1
  generalize w2.alloc (.cells #[i64 ce, i64 ck, i64 cn, i64 cr] 108) = U at *
  generalize w2.heap.size = Z at *
  rotate_left
  go_simp
  refine hK.out _ _ (fun _ => HS.out.below (bl1 w1.drew _)) ?_
  clear hK K
  have HSA : Hid (Sq2 w.heap.size (hO sl gn) B (bdO vb vt vm s0 s1 s2) (w1.alloc (cO zC)).drew) := ⟨bka HQ1.out _, bka HO1.out _⟩
  have HZA : Hid ((w1.alloc (cO zC)).drew.heap[w1.heap.size]? = some (cO zC)) := hlx w1 _
  have HBA : Hid (Below w.heap.size w (w1.alloc (cO zC)).drew) := (HB1.out.alloc HB1.out.size _).drew
  have hZw : w.heap.size ≤ w1.heap.size := HB1.out.size
  unfold cO zC at HSA HZA HBA
  generalize (w1.alloc (.cells #[i64 0, i64 0, i64 0, i64 0] 108)).drew = V at *
  have hBZ : B < w1.heap.size := blk_lt HO1.out
  have hQZ : w.heap.size < w1.heap.size := blk_lt HQ1.out
  skip
  generalize w1.heap.size = Z at *
  clear HS HB1 HQ1 HO1 w1
  refine wo 6 rfl (fun K hK => ?_)
  go_simp
  refine (HL.out V HBA.out).mono ?_
  rintro e w2 ⟨rfl, hb2⟩
  have HS2 : Hid (Sq2 w.heap.size (hO sl gn) B (bdO vb vt vm s0 s1 s2) w2) := HSA.out.below hb2
  have HBx : Hid (Below w.heap.size w w2) := bth HBA hb2
  have HZ2 : Hid (w2.heap[Z]? = some (.cells #[i64 0, i64 0, i64 0, i64 0] 108)) := bkb HZA.out hb2
  clear hb2 HSA HBA HZA
  unfold Cp.Cp.v
  go_simp
  refine hK.out _ _ (fun _ => HS2.out) ?_
  clear hK K
  refine wk 7 11 (.tuple #[.agg #[i64 ce, i64 ck, i64 cn, i64 cr], i64 0]) rfl HS2.out (fun W hW => by go_simp) ?_
  refine wk 8 19 (.agg #[i64 ce, i64 ck, i64 cn, i64 cr]) rfl HS2.out (fun W hW => by go_simp) ?_
  refine wk 9 20 (i64 0) rfl HS2.out (fun W hW => by go_simp) ?_
  simp only [Act.put, sA, sZ, sS]
  have z0 : w2.cell? ⟨Z, 0, none⟩ = some (i64 0) := bkc HZ2.out 0
  have z1 : w2.cell? ⟨Z, 1, none⟩ = some (i64 0) := bkc HZ2.out 1
  have z2 : w2.cell? ⟨Z, 2, none⟩ = some (i64 0) := bkc HZ2.out 2
  have z3 : w2.cell? ⟨Z, 3, none⟩ = some (i64 0) := bkc HZ2.out 3
  have zf : ∀ j, w2.frozen? ⟨Z, j, none⟩ = false := bkf HZ2.out
  have HSu : Hid (Sq2 w.heap.size (hO sl gn) B (bdO vb vt vm s0 s1 s2) ((((w2.setCell ⟨Z, 0, none⟩ (i64 ce)).setCell ⟨Z, 1, none⟩ (i64 ck)).setCell ⟨Z, 2, none⟩ (i64 cn)).setCell ⟨Z, 3, none⟩ (i64 cr))) := HS2.out.set4 (by omega) (by omega) ⟨ce, ck, cn, cr⟩
  have HZu : Hid (((((w2.setCell ⟨Z, 0, none⟩ (i64 ce)).setCell ⟨Z, 1, none⟩ (i64 ck)).setCell ⟨Z, 2, none⟩ (i64 cn)).setCell ⟨Z, 3, none⟩ (i64 cr)).heap[Z]? = some (cO ⟨ce, ck, cn, cr⟩)) := Cp.set4 (d := zC) HZ2.out ⟨ce, ck, cn, cr⟩
  have HBu : Hid (Below w.heap.size w ((((w2.setCell ⟨Z, 0, none⟩ (i64 ce)).setCell ⟨Z, 1, none⟩ (i64 ck)).setCell ⟨Z, 2, none⟩ (i64 cn)).setCell ⟨Z, 3, none⟩ (i64 cr))) := Cp.bel4 HBx.out hZw ⟨ce, ck, cn, cr⟩
  refine wo 11 rfl (fun K hK => ?_)
  go_simp
  refine hK.out _ _ (fun _ => HSu.out) ?_
  clear hK K
  refine wo 12 rfl (fun K hK => ?_)
  go_simp
  refine hK.out _ _ (fun h => absurd rfl h) ?_
  clear hK K
  refine wdd ?_
  refine NoPanic.normal ?_
  clear HS2 HBx HZ2 z0 z1 z2 z3 zf HL hBZ hQZ
  unfold cO at HZu
  generalize ((((w2.setCell ⟨Z, 0, none⟩ (i64 ce)).setCell ⟨Z, 1, none⟩ (i64 ck)).setCell ⟨Z, 2, none⟩ (i64 cn)).setCell ⟨Z, 3, none⟩ (i64 cr)) = U at *
  all_goals
    have HS5 : Hid (Sq3 w.heap.size (hO sl gn) B (bdO vb vt vm s0 s1 s2) Z (.cells #[i64 ce, i64 ck, i64 cn, i64 cr] 108) U.drew) := ⟨HSu.out.one, HSu.out.two, HZu.out⟩
    clear HSu HZu hZw
    go_upto_region 5 with fail
    refine wp_region_noPanic ?_
    refine wrl (Sq3 w.heap.size (hO sl gn) B (bdO vb vt vm s0 s1 s2) Z (.cells #[i64 ce, i64 ck, i64 cn, i64 cr] 108)) 7 (by kernel_rfl) ?_
    refine wkp 0 24 (pq B) [5] rfl HS5.out (fun W hW => by go_simp) ?_
    refine wkp 1 25 (.pointer (some ⟨Z, 1, none⟩)) [2, 5] rfl HS5.out (fun W hW => by go_simp) ?_
    refine wkp 2 26 (i64 ck) [5] rfl HS5.out (fun W hW => by have q0 := bkc hW.one 0; have q1 := bkc hW.one 1; have o0 := bkc hW.two 0; have o1 := bkc hW.two 1; have k1 := bkc hW.three 1; have k2 := bkc hW.three 2; go_simp) ?_
    refine wkp 3 27 (.pointer (some ⟨Z, 2, none⟩)) [4, 5] rfl HS5.out (fun W hW => by go_simp) ?_
    refine wkp 4 28 (i64 cn) [5] rfl HS5.out (fun W hW => by have q0 := bkc hW.one 0; have q1 := bkc hW.one 1; have o0 := bkc hW.two 0; have o1 := bkc hW.two 1; have k1 := bkc hW.three 1; have k2 := bkc hW.three 2; go_simp) ?_
    refine wk 6 30 (.agg #[i64 sl, i64 gn]) rfl HS5.out (fun W hW => by have q0 := bkc hW.one 0; have q1 := bkc hW.one 1; have o0 := bkc hW.two 0; have o1 := bkc hW.two 1; have k1 := bkc hW.three 1; have k2 := bkc hW.three 2; go_simp) ?_
    simp only [Act.put, sA, sZ, sS]
    refine wo 5 rfl (fun K hK => ?_)
    go_simp
    refine (HRt.out U.drew HBu.out.drew).mono ?_
    rintro e w3 ⟨rfl, hb3⟩
    have HS6 : Hid (Sq3 w.heap.size (hO sl gn) B (bdO vb vt vm s0 s1 s2) Z (.cells #[i64 ce, i64 ck, i64 cn, i64 cr] 108) w3) := HS5.out.below hb3
    have HB3 : Hid (Below w.heap.size w w3) := bth HBu (below_drew hb3)
    clear hb3
    go_simp
    refine hK.out _ _ (fun _ => HS6.out) ?_
    clear hK K
    have hnq := neq43 sl gn sl gn w3
    simp only [decide_true, Bool.not_true] at hnq
    refine wo 7 rfl (fun K hK => ?_)
    go_simp
    refine hK.out _ _ (fun h => absurd rfl h) ?_
    clear hK K
    refine wdd ?_
    refine NoPanic.normal ?_
    clear HS5 hnq HBu
    go_upto_region 7 with fail
    have HD3 : Hid (Bd w3 base B x t s T L R) := HD.out.below HB3.out
    have HF3 : Hid (Bf base x w w3) := Bf.of_below HB3.out HF.out
    have nk1 : w.heap.size ≠ x.kt := ne_of_obj HS6.out.one HD3.out.tb.row (by simp)
    have nk2 : B ≠ x.kt := ne_of_obj HS6.out.two HD3.out.tb.row (by simp)
    have nk3 : Z ≠ x.kt := ne_of_obj HS6.out.three HD3.out.tb.row (by simp)
    have HS7 : Hid (Sq3 w.heap.size (hO sl gn) B (bdO vb vt vm s0 s1 s2) Z (.cells #[i64 ce, i64 ck, i64 cn, i64 cr] 108) w3.drew) := HS6.out.drew
    refine wp_region_noPanic ?_
    refine wrl (Sq3 w.heap.size (hO sl gn) B (bdO vb vt vm s0 s1 s2) Z (.cells #[i64 ce, i64 ck, i64 cn, i64 cr] 108)) 6 (by kernel_rfl) ?_
    refine wkp 0 32 (pq B) [1, 2, 3] rfl HS7.out (fun W hW => by go_simp) ?_
    refine wkp 1 33 (pq B) [2, 3] rfl HS7.out (fun W hW => by go_simp) ?_
    refine wkp 2 34 (.pointer (some ⟨B, 1, none⟩)) [3] rfl HS7.out (fun W hW => by go_simp) ?_
    refine wk 3 35 (vt) rfl HS7.out (fun W hW => by have q0 := bkc hW.one 0; have q1 := bkc hW.one 1; have o0 := bkc hW.two 0; have o1 := bkc hW.two 1; have k1 := bkc hW.three 1; have k2 := bkc hW.three 2; go_simp) ?_
    refine wk 4 36 (i64 env) rfl HS7.out (fun W hW => by go_simp) ?_
    refine wk 5 37 (.agg #[i64 sl, i64 gn]) rfl HS7.out (fun W hW => by have q0 := bkc hW.one 0; have q1 := bkc hW.one 1; have o0 := bkc hW.two 0; have o1 := bkc hW.two 1; have k1 := bkc hW.three 1; have k2 := bkc hW.three 2; go_simp) ?_
    simp only [Act.put, sA, sZ, sS]
    refine wo 6 rfl (fun K hK => ?_)
    go_simp
    refine (HDp.out w3.drew HD3.out.drew.tb).mono ?_
    rintro e w4 ⟨rfl, ht4, hto4⟩
    have HS8 : Hid (Sq3 w.heap.size (hO sl gn) B (bdO vb vt vm s0 s1 s2) Z (.cells #[i64 ce, i64 ck, i64 cn, i64 cr] 108) w4) := HS7.out.touch hto4 nk1 nk2 nk3
    have HD4 : Hid (Bd w4 base B x t s T' L R) := HD3.out.drew.table ht4 hto4
    have HF4 : Hid (Bf base x w w4) := HF3.out.trans (Bf.of_drew (HD3.out.drew.table_f hto4))
    clear ht4 hto4
    go_simp
    refine hK.out _ _ (fun h => absurd rfl h) ?_
    clear hK K
    refine wdd ?_
    refine NoPanic.normal ?_
    clear HS6 HS7 HD3 HF3 HB3 nk1 nk2 nk3
    go_upto_region 8 with fail
    have HS9 : Hid (Sq3 w.heap.size (hO sl gn) B (bdO vb vt vm s0 s1 s2) Z (.cells #[i64 ce, i64 ck, i64 cn, i64 cr] 108) w4.drew) := HS8.out.drew
    refine wp_region_noPanic ?_
    refine wrl (Sq3 w.heap.size (hO sl gn) B (bdO vb vt vm s0 s1 s2) Z (.cells #[i64 ce, i64 ck, i64 cn, i64 cr] 108)) 7 (by kernel_rfl) ?_
    refine wkp 0 39 (pq B) [1, 2, 3] rfl HS9.out (fun W hW => by go_simp) ?_
    refine wkp 1 40 (pq B) [2, 3] rfl HS9.out (fun W hW => by go_simp) ?_
    refine wkp 2 41 (.pointer (some ⟨B, 0, none⟩)) [3] rfl HS9.out (fun W hW => by go_simp) ?_
    refine wk 3 42 (vb) rfl HS9.out (fun W hW => by have q0 := bkc hW.one 0; have q1 := bkc hW.one 1; have o0 := bkc hW.two 0; have o1 := bkc hW.two 1; have k1 := bkc hW.three 1; have k2 := bkc hW.three 2; go_simp) ?_
    refine wk 4 43 (i64 env) rfl HS9.out (fun W hW => by go_simp) ?_
    refine wkp 5 44 (.pointer (some ⟨Z, 1, none⟩)) [6] rfl HS9.out (fun W hW => by go_simp) ?_
    refine wk 6 45 (i64 ck) rfl HS9.out (fun W hW => by have q0 := bkc hW.one 0; have q1 := bkc hW.one 1; have o0 := bkc hW.two 0; have o1 := bkc hW.two 1; have k1 := bkc hW.three 1; have k2 := bkc hW.three 2; go_simp) ?_
    simp only [Act.put, sA, sZ, sS]
    refine wo 7 rfl (fun K hK => ?_)
    go_simp
    refine (HGv.out w4.drew HD4.out.drew.bk).mono ?_
    rintro e w5 ⟨rfl, hk5, hf5⟩
    have HD5 : Hid (Bd w5 base B x t sg T' L R) := HD4.out.drew.book hk5 hf5
    have HF5 : Hid (Bf base x w w5) := HF4.out.trans (Bf.of_drew (Bd.book_f hf5))
    clear hk5 hf5
    go_simp
    refine hK.out _ _ (fun h => absurd rfl h) ?_
    clear hK K
    refine wdd ?_
    refine NoPanic.normal ?_
    clear HS8 HS9 HD4 HF4
    go_wp2_with fail
    refine (strike_ok HD5.out).mono ?_
    rintro e w6 ⟨rfl, hd6, hf6⟩
    have HD6 := hid hd6
    have HF6 : Hid (Bf base x w w6) := HF5.out.trans hf6
    clear hd6 hf6 HD5 HF5
    go_wp2_with fail
    go_ret
    exact ⟨rfl, HD6.out, HF6.out⟩
end Go.Proofs.Ytnknhencobhjdaa
