/- No statement here. -/
import Derived.Test.YtnknhencobhjdaaMEr3
set_option maxRecDepth 100000
namespace Go.Proofs.Ytnknhencobhjdaa
open Go.ChangeShapes Go.WideShapes Go.ChangeAt Go.RowKit Go.Deep Go.ChangeMaps Go.MapKept
open Go.Proofs.Ytnknhencobhjdaa.Cp (pq hid bl1 hO cO zC looks_nil)
open Go.Proofs.Ytnknhencobhjdaa.Qt (zT badB)
set_option maxHeartbeats 3200000 in
theorem share_no {w : World} {base B : Nat} {x : Bx} {t : Qt.T} {s : Qt.St} {T : List Cp.Pl} {L : Ls} {R : Nat → List Hn} (h : Bd w base B x t s T L R) (env sl gn tt rights ce ck cn cr : Int) (hlk : Cp.lookF T env sl gn = some ⟨ce, ck, cn, cr⟩) (hlf : Qt.pE (Qt.at_ s tt) = 0) (hLe : L.length ≤ 1000) (hcn : cnt L env < 42) (d0 : Int) (hd0 : ¬ d0 = 0) (hd : ∀ W, Cp.Tb W base x.kt T → Calls Try.prog 62 #[pq x.kt, i64 env, .agg #[i64 sl, i64 gn], i64 tt, i64 rights] W fun e w' => e = .returned (.tuple #[.agg #[i64 0, i64 0], i64 d0]) ∧ Below W.heap.size W w') :
    Calls Try.prog 24 #[pq B, i64 env, .agg #[i64 sl, i64 gn], i64 tt, i64 rights] w fun e w' => e = .returned (.tuple #[.agg #[i64 0, i64 0], i64 d0]) ∧ Below w.heap.size w w' := by
  have HD := hid h
  obtain ⟨vt, hvt⟩ : ∃ vt, pq x.kt = vt := ⟨_, rfl⟩
  obtain ⟨vb, hvb⟩ : ∃ vb, pq x.kb = vb := ⟨_, rfl⟩
  obtain ⟨vm, hvm⟩ : ∃ vm, Value.map (some x.km) = vm := ⟨_, rfl⟩
  obtain ⟨s0, hs0⟩ : ∃ s0, slV (x.g 0) (R 0).length = s0 := ⟨_, rfl⟩
  obtain ⟨s1, hs1⟩ : ∃ s1, slV (x.g 1) (R 1).length = s1 := ⟨_, rfl⟩
  obtain ⟨s2, hs2⟩ : ∃ s2, slV (x.g 2) (R 2).length = s2 := ⟨_, rfl⟩
  have hrow := h.row
  rw [hs0, hs1, hs2, hvt, hvb, hvm] at hrow
  have HL : Hid (Cp.Looks w vt env sl gn ⟨ce, ck, cn, cr⟩ 0) := by
    have := Cp.looks_tb h.tb env sl gn
    rw [hlk] at this
    rw [← hvt]
    exact this
  obtain ⟨l0, l1, l2, hlT⟩ : ∃ l0 l1 l2, (Qt.lfT (Qt.at_ s tt)) = ⟨l0, l1, l2⟩ := ⟨_, _, _, rfl⟩
  have HLf : Hid (∀ W, Below w.heap.size w W → Calls Try.prog 61 #[vb, i64 tt] W fun e w' => e = .returned (.tuple #[.agg #[i64 l0, i64 l1, i64 l2], i64 0]) ∧ Below W.heap.size W w') := fun W hW => by
    have := Qt.left_ok (h.bk.below hW) tt
    rw [hlT, hlf] at this
    rw [← hvb]
    exact this
  have HB1 := bel_two w (.cells #[i64 sl, i64 gn] 43) (.cells #[i64 0, i64 0] 43)
  have HQ1 : Hid (((w.alloc (.cells #[i64 sl, i64 gn] 43)).alloc (.cells #[i64 0, i64 0] 43)).heap[w.heap.size]? = some (hO sl gn)) := bka (hlx w _) _
  have HT1 : Hid (((w.alloc (.cells #[i64 sl, i64 gn] 43)).alloc (.cells #[i64 0, i64 0] 43)).heap[w.heap.size + 1]? = some (hO 0 0)) := by
    have := hlx (w.alloc (hO sl gn)) (hO 0 0)
    rwa [show (w.alloc (hO sl gn)).heap.size = w.heap.size + 1 by simp] at this
  have HO1 : Hid (((w.alloc (.cells #[i64 sl, i64 gn] 43)).alloc (.cells #[i64 0, i64 0] 43)).heap[B]? = some (bdO vb vt vm s0 s1 s2)) := bkb hrow HB1.out
  have HLe := hid hLe
  have hcI : ¬ (42 : Int) ≤ ((cnt L env : Nat) : Int) := by omega
  have HDe : Hid (∀ W, Below w.heap.size w W → Calls Try.prog 62 #[vt, i64 env, .agg #[i64 sl, i64 gn], i64 tt, i64 rights] W fun e w' => e = .returned (.tuple #[.agg #[i64 0, i64 0], i64 d0]) ∧ Below W.heap.size W w') := fun W hW => by rw [← hvt]; exact hd W (h.tb.below hW)
  clear h hlk hlf hrow hs0 hs1 hs2 hvt hvb hvm hlT hLe hcn hd
  go_enter Try.func24, Try.ntmps24
  go_upto_region 1 with fail
  generalize (w.alloc (.cells #[i64 sl, i64 gn] 43)).alloc (.cells #[i64 0, i64 0] 43) = wz at *
  go_upto_region 2 with (go_at_call 48; refine (orEmpty_ok _ B).mono ?_; rintro e w1 ⟨rfl, hw2⟩; subst hw2)
  have HS : Hid (Sq3 w.heap.size (hO sl gn) B (bdO vb vt vm s0 s1 s2) (w.heap.size + 1) (hO 0 0) w1.drew) := ⟨HQ1.out, HO1.out, HT1.out⟩
  refine wp_region_noPanic ?_
  refine wrl (Sq3 w.heap.size (hO sl gn) B (bdO vb vt vm s0 s1 s2) (w.heap.size + 1) (hO 0 0)) 12 (by kernel_rfl) ?_
  refine wk 0 21 (pq B) rfl HS.out (fun W hW => by have q0 := bkc hW.one 0; have q1 := bkc hW.one 1; have o1 := bkc hW.two 1; go_simp) ?_
  refine wk 1 22 (pq B) rfl HS.out (fun W hW => by have q0 := bkc hW.one 0; have q1 := bkc hW.one 1; have o1 := bkc hW.two 1; go_simp) ?_
  refine wk 2 23 (.pointer (some ⟨B, 1, none⟩)) rfl HS.out (fun W hW => by have q0 := bkc hW.one 0; have q1 := bkc hW.one 1; have o1 := bkc hW.two 1; go_simp) ?_
  refine wk 3 24 (vt) rfl HS.out (fun W hW => by have q0 := bkc hW.one 0; have q1 := bkc hW.one 1; have o1 := bkc hW.two 1; go_simp) ?_
  refine wk 4 25 (i64 env) rfl HS.out (fun W hW => by have q0 := bkc hW.one 0; have q1 := bkc hW.one 1; have o1 := bkc hW.two 1; go_simp) ?_
  refine wk 5 26 (.agg #[i64 sl, i64 gn]) rfl HS.out (fun W hW => by have q0 := bkc hW.one 0; have q1 := bkc hW.one 1; have o1 := bkc hW.two 1; go_simp) ?_
  simp only [Act.put, sA, sZ, sS]
  refine wpL_two 6 10 rfl rfl (by kernel_rfl) (by rfl) (by rfl) (fun K hK => ?_) (fun K hK => ?_)
  go_simp
  refine (HL.out w1.drew HB1.out.drew).mono ?_
  rintro e w2 ⟨rfl, hb2⟩
  have hb2' : Below w1.heap.size w1 w2 := below_drew hb2
  have HS2 : Hid (Sq3 w.heap.size (hO sl gn) B (bdO vb vt vm s0 s1 s2) (w.heap.size + 1) (hO 0 0) w2) := ⟨bkb HQ1.out hb2', bkb HO1.out hb2', bkb HT1.out hb2'⟩
  have HBx : Hid (Below w.heap.size w w2) := bth HB1 hb2'
  clear hb2 hb2'
  unfold Cp.Cp.v
  go_simp
  refine hK.out _ _ (fun _ => HS2.out) ?_
  clear hK K
  refine wk 7 20 (.tuple #[.agg #[i64 ce, i64 ck, i64 cn, i64 cr], i64 0]) rfl HS2.out (fun W hW => by go_simp) ?_
  refine wk 8 28 (.agg #[i64 ce, i64 ck, i64 cn, i64 cr]) rfl HS2.out (fun W hW => by go_simp) ?_
  refine wk 9 29 (i64 0) rfl HS2.out (fun W hW => by go_simp) ?_
  simp only [Act.put, sA, sZ, sS]
  refine wo 10 rfl (fun K hK => ?_)
  go_simp
  refine hK.out _ _ (fun _ => HS2.out.below (bl1 w2 _)) ?_
  clear hK K
  refine wo 11 rfl (fun K hK => ?_)
  go_simp
  refine hK.out _ _ (fun _ => HS2.out.below (bl1 w2 _)) ?_
  clear hK K
  refine wo 12 rfl (fun K hK => ?_)
  go_simp
  refine hK.out _ _ (fun h => absurd rfl h) ?_
  clear hK K
  refine wdd ?_
  refine NoPanic.normal ?_
  have HBu : Hid (Below w.heap.size w (w2.alloc (cO ⟨ce, ck, cn, cr⟩))) := bth HBx (bl1 w2 _)
  have HZu : Hid ((w2.alloc (cO ⟨ce, ck, cn, cr⟩)).heap[w2.heap.size]? = some (cO ⟨ce, ck, cn, cr⟩)) := hlx w2 _
  have HSu : Hid (Sq3 w.heap.size (hO sl gn) B (bdO vb vt vm s0 s1 s2) (w.heap.size + 1) (hO 0 0) (w2.alloc (cO ⟨ce, ck, cn, cr⟩))) := HS2.out.below (bl1 w2 _)
  have hZw : w.heap.size ≤ w2.heap.size := HBx.out.size
  unfold cO at HBu HZu HSu
  clear HS HS2 HBx HL HB1 HQ1 HO1 HT1
  generalize w2.alloc (.cells #[i64 ce, i64 ck, i64 cn, i64 cr] 108) = U at *
  generalize w2.heap.size = Z at *
  rotate_left
  go_simp
  refine hK.out _ _ (fun _ => HS.out.below (bl1 w1.drew _)) ?_
  clear hK K
  have HSA : Hid (Sq3 w.heap.size (hO sl gn) B (bdO vb vt vm s0 s1 s2) (w.heap.size + 1) (hO 0 0) (w1.alloc (cO zC)).drew) := ⟨bka HQ1.out _, bka HO1.out _, bka HT1.out _⟩
  have HZA : Hid ((w1.alloc (cO zC)).drew.heap[w1.heap.size]? = some (cO zC)) := hlx w1 _
  have HBA : Hid (Below w.heap.size w (w1.alloc (cO zC)).drew) := (HB1.out.alloc HB1.out.size _).drew
  have hZw : w.heap.size ≤ w1.heap.size := HB1.out.size
  unfold cO zC at HSA HZA HBA
  generalize (w1.alloc (.cells #[i64 0, i64 0, i64 0, i64 0] 108)).drew = V at *
  have hBZ : B < w1.heap.size := blk_lt HO1.out
  have hQZ : w.heap.size < w1.heap.size := blk_lt HQ1.out
  have hTZ : w.heap.size + 1 < w1.heap.size := blk_lt HT1.out
  generalize w1.heap.size = Z at *
  clear HS HB1 HQ1 HO1 HT1 w1
  refine wo 6 rfl (fun K hK => ?_)
  go_simp
  refine (HL.out V HBA.out).mono ?_
  rintro e w2 ⟨rfl, hb2⟩
  have HS2 : Hid (Sq3 w.heap.size (hO sl gn) B (bdO vb vt vm s0 s1 s2) (w.heap.size + 1) (hO 0 0) w2) := HSA.out.below hb2
  have HBx : Hid (Below w.heap.size w w2) := bth HBA hb2
  have HZ2 : Hid (w2.heap[Z]? = some (.cells #[i64 0, i64 0, i64 0, i64 0] 108)) := bkb HZA.out hb2
  clear hb2 HSA HBA HZA
  unfold Cp.Cp.v
  go_simp
  refine hK.out _ _ (fun _ => HS2.out) ?_
  clear hK K
  refine wk 7 20 (.tuple #[.agg #[i64 ce, i64 ck, i64 cn, i64 cr], i64 0]) rfl HS2.out (fun W hW => by go_simp) ?_
  refine wk 8 28 (.agg #[i64 ce, i64 ck, i64 cn, i64 cr]) rfl HS2.out (fun W hW => by go_simp) ?_
  refine wk 9 29 (i64 0) rfl HS2.out (fun W hW => by go_simp) ?_
  simp only [Act.put, sA, sZ, sS]
  have z0 : w2.cell? ⟨Z, 0, none⟩ = some (i64 0) := bkc HZ2.out 0
  have z1 : w2.cell? ⟨Z, 1, none⟩ = some (i64 0) := bkc HZ2.out 1
  have z2 : w2.cell? ⟨Z, 2, none⟩ = some (i64 0) := bkc HZ2.out 2
  have z3 : w2.cell? ⟨Z, 3, none⟩ = some (i64 0) := bkc HZ2.out 3
  have zf : ∀ j, w2.frozen? ⟨Z, j, none⟩ = false := bkf HZ2.out
  have HSu : Hid (Sq3 w.heap.size (hO sl gn) B (bdO vb vt vm s0 s1 s2) (w.heap.size + 1) (hO 0 0) ((((w2.setCell ⟨Z, 0, none⟩ (i64 ce)).setCell ⟨Z, 1, none⟩ (i64 ck)).setCell ⟨Z, 2, none⟩ (i64 cn)).setCell ⟨Z, 3, none⟩ (i64 cr))) := HS2.out.set4 (by omega) (by omega) (by omega) ⟨ce, ck, cn, cr⟩
  have HZu : Hid (((((w2.setCell ⟨Z, 0, none⟩ (i64 ce)).setCell ⟨Z, 1, none⟩ (i64 ck)).setCell ⟨Z, 2, none⟩ (i64 cn)).setCell ⟨Z, 3, none⟩ (i64 cr)).heap[Z]? = some (cO ⟨ce, ck, cn, cr⟩)) := Cp.set4 (d := zC) HZ2.out ⟨ce, ck, cn, cr⟩
  have HBu : Hid (Below w.heap.size w ((((w2.setCell ⟨Z, 0, none⟩ (i64 ce)).setCell ⟨Z, 1, none⟩ (i64 ck)).setCell ⟨Z, 2, none⟩ (i64 cn)).setCell ⟨Z, 3, none⟩ (i64 cr))) := Cp.bel4 HBx.out hZw ⟨ce, ck, cn, cr⟩
  refine wo 11 rfl (fun K hK => ?_)
  go_simp
  refine hK.out _ _ (fun _ => HSu.out) ?_
  clear hK K
  refine wo 12 rfl (fun K hK => ?_)
  go_simp
  refine hK.out _ _ (fun h => absurd rfl h) ?_
  clear hK K
  refine wdd ?_
  refine NoPanic.normal ?_
  clear HS2 HBx HZ2 z0 z1 z2 z3 zf HL hBZ hQZ hTZ
  unfold cO at HZu
  generalize ((((w2.setCell ⟨Z, 0, none⟩ (i64 ce)).setCell ⟨Z, 1, none⟩ (i64 ck)).setCell ⟨Z, 2, none⟩ (i64 cn)).setCell ⟨Z, 3, none⟩ (i64 cr)) = U at *
  all_goals
    have o0 : U.cell? ⟨B, 0, none⟩ = some vb := bkc HSu.out.two 0
    go_wp2_with fail
    refine (HLf.out U HBu.out).mono ?_
    rintro e w3 ⟨rfl, hb3⟩
    have HB4 : Hid (Below w.heap.size w (w3.alloc (.cells #[i64 l0, i64 l1, i64 l2] 22))) := bth (bth HBu hb3) (bl1 w3 _)
    have HS4 : Hid (Sq3 w.heap.size (hO sl gn) B (bdO vb vt vm s0 s1 s2) (w.heap.size + 1) (hO 0 0) (w3.alloc (.cells #[i64 l0, i64 l1, i64 l2] 22))) := (HSu.out.below hb3).below (bl1 w3 _)
    clear hb3 HBu HSu HZu o0 HLf hZw
    go_wp2_with fail
    generalize w3.alloc (.cells #[i64 l0, i64 l1, i64 l2] 22) = w4 at *
    refine (paid_ok (HD.out.below HB4.out) HLe.out env).mono ?_
    rintro e w5 ⟨rfl, hb5⟩
    have HB5 : Hid (Below w.heap.size w w5) := bth HB4 hb5
    have HS5 : Hid (Sq3 w.heap.size (hO sl gn) B (bdO vb vt vm s0 s1 s2) (w.heap.size + 1) (hO 0 0) w5) := HS4.out.below hb5
    clear hb5 HB4 HS4 HD HLe
    generalize cnt L env = c at *
    go_upto_region 10 with fail
    clear hcI
    have HS : Hid (Sq3 w.heap.size (hO sl gn) B (bdO vb vt vm s0 s1 s2) (w.heap.size + 1) (hO 0 0) w5.drew) := ⟨HS5.out.one, HS5.out.two, HS5.out.three⟩
    refine wp_region_noPanic ?_
    refine wrl (Sq3 w.heap.size (hO sl gn) B (bdO vb vt vm s0 s1 s2) (w.heap.size + 1) (hO 0 0)) 14 (by kernel_rfl) ?_
    refine wk 0 53 (pq B) rfl HS.out (fun W hW => by go_simp) ?_
    refine wk 1 54 (pq B) rfl HS.out (fun W hW => by go_simp) ?_
    refine wk 2 55 (.pointer (some ⟨B, 1, none⟩)) rfl HS.out (fun W hW => by go_simp) ?_
    refine wk 3 56 (vt) rfl HS.out (fun W hW => by have q0 := bkc hW.one 0; have q1 := bkc hW.one 1; have o1 := bkc hW.two 1; go_simp) ?_
    refine wk 4 57 (i64 env) rfl HS.out (fun W hW => by go_simp) ?_
    refine wk 5 58 (.agg #[i64 sl, i64 gn]) rfl HS.out (fun W hW => by have q0 := bkc hW.one 0; have q1 := bkc hW.one 1; have o1 := bkc hW.two 1; go_simp) ?_
    refine wk 6 59 (i64 tt) rfl HS.out (fun W hW => by go_simp) ?_
    refine wk 7 60 (i64 rights) rfl HS.out (fun W hW => by go_simp) ?_
    simp only [Act.put, sA, sZ, sS]
    refine wpL_two 8 12 rfl rfl (by kernel_rfl) (by rfl) (by rfl) (fun K hK => ?_) (fun K hK => ?_)
    · go_simp
      refine (HDe.out w5.drew HB5.out.drew).mono ?_
      rintro e w6 ⟨rfl, hb6⟩
      have HS6 : Hid (Sq3 w.heap.size (hO sl gn) B (bdO vb vt vm s0 s1 s2) (w.heap.size + 1) (hO 0 0) w6) := HS.out.below hb6
      have HB6x : Hid (Below w.heap.size w w6) := bth HB5 (below_drew hb6)
      clear hb6
      go_simp
      refine hK.out _ _ (fun _ => HS6.out) ?_
      clear hK K
      refine wk 9 52 (.tuple #[.agg #[i64 0, i64 0], i64 d0]) rfl HS6.out (fun W hW => by go_simp) ?_
      refine wk 10 62 (.agg #[i64 0, i64 0]) rfl HS6.out (fun W hW => by go_simp) ?_
      refine wk 11 63 (i64 d0) rfl HS6.out (fun W hW => by go_simp) ?_
      simp only [Act.put, sA, sZ, sS]
      refine wo 12 rfl (fun K hK => ?_)
      go_simp
      refine hK.out _ _ (fun _ => HS6.out.below (bl1 w6 _)) ?_
      clear hK K
      refine wo 13 rfl (fun K hK => ?_)
      go_simp
      refine hK.out _ _ (fun _ => HS6.out.below (bl1 w6 _)) ?_
      clear hK K
      refine wo 14 rfl (fun K hK => ?_)
      go_simp
      refine hK.out _ _ (fun h => absurd rfl h) ?_
      clear hK K
      refine wdd ?_
      refine NoPanic.normal ?_
      have HB6 : Hid (Below w.heap.size w (w6.alloc (.cells #[i64 0, i64 0] 43))) := bth HB6x (bl1 w6 _)
      have HY6 : Hid ((w6.alloc (.cells #[i64 0, i64 0] 43)).heap[w6.heap.size]? = some (hO 0 0)) := hlx w6 _
      have HR6 : Hid ((w6.alloc (.cells #[i64 0, i64 0] 43)).heap[w.heap.size + 1]? = some (hO 0 0)) := bka HS6.out.three _
      clear HS6 HB6x HS HS5 HDe
      generalize w6.alloc (.cells #[i64 0, i64 0] 43) = U2 at *
      generalize w6.heap.size = Z2 at *
      have y0 : U2.cell? ⟨Z2, 0, none⟩ = some (i64 0) := bkc HY6.out 0
      have y1 : U2.cell? ⟨Z2, 1, none⟩ = some (i64 0) := bkc HY6.out 1
      have z0 : U2.cell? ⟨w.heap.size + 1, 0, none⟩ = some (i64 0) := bkc HR6.out 0
      have z1 : U2.cell? ⟨w.heap.size + 1, 1, none⟩ = some (i64 0) := bkc HR6.out 1
      have zf : ∀ j, U2.frozen? ⟨w.heap.size + 1, j, none⟩ = false := bkf HR6.out
      go_wp2_with fail
      exact bodyPost_ret (Cp.results_cell Try.results24 rfl rfl (Cp.load42 (Cp.set2 HR6.out _ _))) rfl ⟨rfl, Cp.bel2 HB6.out (by omega) _ _⟩
    · go_simp
      refine hK.out _ _ (fun _ => HS.out.below (bl1 w5.drew _)) ?_
      clear hK K
      have HSA : Hid (Sq3 w.heap.size (hO sl gn) B (bdO vb vt vm s0 s1 s2) (w.heap.size + 1) (hO 0 0) (w5.alloc (hO 0 0)).drew) := ⟨bka HS5.out.one _, bka HS5.out.two _, bka HS5.out.three _⟩
      have HZA : Hid ((w5.alloc (hO 0 0)).drew.heap[w5.heap.size]? = some (hO 0 0)) := hlx w5 _
      have HBA : Hid (Below w.heap.size w (w5.alloc (hO 0 0)).drew) := (HB5.out.alloc HB5.out.size _).drew
      have hZw : w.heap.size ≤ w5.heap.size := HB5.out.size
      have hT5 : w.heap.size + 1 < w5.heap.size := blk_lt HS5.out.three
      have hB5 : B < w5.heap.size := blk_lt HS5.out.two
      unfold hO at HSA HZA HBA
      generalize (w5.alloc (.cells #[i64 0, i64 0] 43)).drew = V at *
      generalize w5.heap.size = Z2 at *
      refine wo 8 rfl (fun K hK => ?_)
      go_simp
      refine (HDe.out V HBA.out).mono ?_
      rintro e w6 ⟨rfl, hb6⟩
      have HS6 : Hid (Sq3 w.heap.size (hO sl gn) B (bdO vb vt vm s0 s1 s2) (w.heap.size + 1) (hO 0 0) w6) := HSA.out.below hb6
      have HB6x : Hid (Below w.heap.size w w6) := bth HBA hb6
      have HZ6 : Hid (w6.heap[Z2]? = some (.cells #[i64 0, i64 0] 43)) := bkb HZA.out hb6
      clear hb6 HSA HZA HBA
      go_simp
      refine hK.out _ _ (fun _ => HS6.out) ?_
      clear hK K
      refine wk 9 52 (.tuple #[.agg #[i64 0, i64 0], i64 d0]) rfl HS6.out (fun W hW => by go_simp) ?_
      refine wk 10 62 (.agg #[i64 0, i64 0]) rfl HS6.out (fun W hW => by go_simp) ?_
      refine wk 11 63 (i64 d0) rfl HS6.out (fun W hW => by go_simp) ?_
      simp only [Act.put, sA, sZ, sS]
      have z0 : w6.cell? ⟨Z2, 0, none⟩ = some (i64 0) := bkc HZ6.out 0
      have z1 : w6.cell? ⟨Z2, 1, none⟩ = some (i64 0) := bkc HZ6.out 1
      have zf : ∀ j, w6.frozen? ⟨Z2, j, none⟩ = false := bkf HZ6.out
      have ht7 := touch_set2 w6 Z2 0 1 (i64 0) (i64 0)
      have HSu : Hid (Sq3 w.heap.size (hO sl gn) B (bdO vb vt vm s0 s1 s2) (w.heap.size + 1) (hO 0 0) ((w6.setCell ⟨Z2, 0, none⟩ (i64 0)).setCell ⟨Z2, 1, none⟩ (i64 0))) := HS6.out.touch ht7 (by omega) (by omega) (by omega)
      have HB6 : Hid (Below w.heap.size w ((w6.setCell ⟨Z2, 0, none⟩ (i64 0)).setCell ⟨Z2, 1, none⟩ (i64 0))) := Cp.bel2 HB6x.out hZw _ _
      have HY6 : Hid (((w6.setCell ⟨Z2, 0, none⟩ (i64 0)).setCell ⟨Z2, 1, none⟩ (i64 0)).heap[Z2]? = some (hO 0 0)) := Cp.set2 HZ6.out _ _
      clear ht7
      refine wo 13 rfl (fun K hK => ?_)
      go_simp
      refine hK.out _ _ (fun _ => HSu.out) ?_
      clear hK K
      refine wo 14 rfl (fun K hK => ?_)
      go_simp
      refine hK.out _ _ (fun h => absurd rfl h) ?_
      clear hK K
      refine wdd ?_
      refine NoPanic.normal ?_
      have HR6 : Hid (((w6.setCell ⟨Z2, 0, none⟩ (i64 0)).setCell ⟨Z2, 1, none⟩ (i64 0)).heap[w.heap.size + 1]? = some (hO 0 0)) := HSu.out.three
      clear HS6 HB6x HZ6 z0 z1 zf HSu hZw hT5 hB5 HS HS5 HDe
      generalize ((w6.setCell ⟨Z2, 0, none⟩ (i64 0)).setCell ⟨Z2, 1, none⟩ (i64 0)) = U2 at *
      have y0 : U2.cell? ⟨Z2, 0, none⟩ = some (i64 0) := bkc HY6.out 0
      have y1 : U2.cell? ⟨Z2, 1, none⟩ = some (i64 0) := bkc HY6.out 1
      have z0 : U2.cell? ⟨w.heap.size + 1, 0, none⟩ = some (i64 0) := bkc HR6.out 0
      have z1 : U2.cell? ⟨w.heap.size + 1, 1, none⟩ = some (i64 0) := bkc HR6.out 1
      have zf : ∀ j, U2.frozen? ⟨w.heap.size + 1, j, none⟩ = false := bkf HR6.out
      go_wp2_with fail
      exact bodyPost_ret (Cp.results_cell Try.results24 rfl rfl (Cp.load42 (Cp.set2 HR6.out _ _))) rfl ⟨rfl, Cp.bel2 HB6.out (by omega) _ _⟩
end Go.Proofs.Ytnknhencobhjdaa
