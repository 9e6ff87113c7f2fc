/- No statement here. -/
import Derived.Test.YtnknhencobhjdaaMSh0
set_option maxRecDepth 100000
namespace Go.Proofs.Ytnknhencobhjdaa
open Go.ChangeShapes Go.WideShapes Go.ChangeAt Go.RowKit Go.Deep Go.ChangeMaps Go.MapKept
open Go.Proofs.Ytnknhencobhjdaa.Cp (pq hid bl1 hO cO zC looks_nil)
open Go.Proofs.Ytnknhencobhjdaa.Qt (zT badB)
set_option maxHeartbeats 3200000 in
theorem share_ok {w : World} {base B : Nat} {x : Bx} {t : Qt.T} {s : Qt.St} {T T' : List Cp.Pl} {L : Ls} {R : Nat → List Hn} (h : Bd w base B x t s T L R) (hLe : L.length ≤ 1000) (env sl gn tt rights ce ck cn cr : Int) (hlk : Cp.lookF T env sl gn = some ⟨ce, ck, cn, cr⟩) (hlf : Qt.pE (Qt.at_ s tt) = 0) (hcn : cnt L env < 42) (q : Nat) (g' : Int)
    (hd : ∀ W, Cp.Tb W base x.kt T → Calls Try.prog 62 #[pq x.kt, i64 env, .agg #[i64 sl, i64 gn], i64 tt, i64 rights] W fun e w' => e = .returned (.tuple #[.agg #[i64 (q : Nat), i64 g'], i64 0]) ∧ Cp.Tb w' base x.kt T' ∧ Touch x.kt W w') (hnew : ∀ r ∈ L, r.1 ≠ ((q : Int), g')) :
    Calls Try.prog 24 #[pq B, i64 env, .agg #[i64 sl, i64 gn], i64 tt, i64 rights] w fun e w' => e = .returned (.tuple #[.agg #[i64 (q : Nat), i64 g'], i64 0]) ∧ Bd w' base B x t s T' (L ++ [(((q : Int), g'), (tt, env))]) R ∧ Bf base x w w' := by
  have HD := hid h
  have HLe := hid hLe
  have HF : Hid (base ≤ w.heap.size) := h.lo'
  have hgs : ∀ j, j < 3 → x.g j < w.heap.size := fun j hj => blk_lt (h.rt j hj).1
  have HNew := hid hnew
  obtain ⟨vt, hvt⟩ : ∃ vt, pq x.kt = vt := ⟨_, rfl⟩
  obtain ⟨vb, hvb⟩ : ∃ vb, pq x.kb = vb := ⟨_, rfl⟩
  obtain ⟨vm, hvm⟩ : ∃ vm, Value.map (some x.km) = vm := ⟨_, rfl⟩
  obtain ⟨s0, hs0⟩ : ∃ s0, slV (x.g 0) (R 0).length = s0 := ⟨_, rfl⟩
  obtain ⟨s1, hs1⟩ : ∃ s1, slV (x.g 1) (R 1).length = s1 := ⟨_, rfl⟩
  obtain ⟨s2, hs2⟩ : ∃ s2, slV (x.g 2) (R 2).length = s2 := ⟨_, rfl⟩
  have hrow := h.row
  rw [hs0, hs1, hs2, hvt, hvb, hvm] at hrow
  have HL : Hid (Cp.Looks w vt env sl gn ⟨ce, ck, cn, cr⟩ 0) := by
    have := Cp.looks_tb h.tb env sl gn
    rw [hlk] at this
    rw [← hvt]
    exact this
  obtain ⟨l0, l1, l2, hlT⟩ : ∃ l0 l1 l2, (Qt.lfT (Qt.at_ s tt)) = ⟨l0, l1, l2⟩ := ⟨_, _, _, rfl⟩
  have HLf : Hid (∀ W, Below w.heap.size w W → Calls Try.prog 61 #[vb, i64 tt] W fun e w' => e = .returned (.tuple #[.agg #[i64 l0, i64 l1, i64 l2], i64 0]) ∧ Below W.heap.size W w') := fun W hW => by
    have := Qt.left_ok (h.bk.below hW) tt
    rw [hlT, hlf] at this
    rw [← hvb]
    exact this
  have HDe : Hid (∀ W, Cp.Tb W base x.kt T → Calls Try.prog 62 #[vt, i64 env, .agg #[i64 sl, i64 gn], i64 tt, i64 rights] W fun e w' => e = .returned (.tuple #[.agg #[i64 (q : Nat), i64 g'], i64 0]) ∧ Cp.Tb w' base x.kt T' ∧ Touch x.kt W w') := fun W hW => by rw [← hvt]; exact hd W hW
  have HVm := hid hvm
  have hcI : ¬ (42 : Int) ≤ ((cnt L env : Nat) : Int) := by omega
  have hbB : B < w.heap.size := h.lt
  have HB1 := bel_two w (.cells #[i64 sl, i64 gn] 43) (.cells #[i64 0, i64 0] 43)
  have HQ1 : Hid (((w.alloc (.cells #[i64 sl, i64 gn] 43)).alloc (.cells #[i64 0, i64 0] 43)).heap[w.heap.size]? = some (hO sl gn)) := bka (hlx w _) _
  have HT1 : Hid (((w.alloc (.cells #[i64 sl, i64 gn] 43)).alloc (.cells #[i64 0, i64 0] 43)).heap[w.heap.size + 1]? = some (hO 0 0)) := by
    have := hlx (w.alloc (hO sl gn)) (hO 0 0)
    rwa [show (w.alloc (hO sl gn)).heap.size = w.heap.size + 1 by simp] at this
  have HO1 : Hid (((w.alloc (.cells #[i64 sl, i64 gn] 43)).alloc (.cells #[i64 0, i64 0] 43)).heap[B]? = some (bdO vb vt vm s0 s1 s2)) := bkb hrow HB1.out
  clear h hLe hnew hlk hlf hcn hd hrow hs0 hs1 hs2 hvt hvb hvm hlT
  go_enter Try.func24, Try.ntmps24
  go_upto_region 1 with fail
  generalize (w.alloc (.cells #[i64 sl, i64 gn] 43)).alloc (.cells #[i64 0, i64 0] 43) = wz at *
  go_upto_region 2 with (go_at_call 48; refine (orEmpty_ok _ B).mono ?_; rintro e w1 ⟨rfl, hw2⟩; subst hw2)
  have HS : Hid (Sq3 w.heap.size (hO sl gn) B (bdO vb vt vm s0 s1 s2) (w.heap.size + 1) (hO 0 0) w1.drew) := ⟨HQ1.out, HO1.out, HT1.out⟩
  refine wp_region_noPanic ?_
  refine wrl (Sq3 w.heap.size (hO sl gn) B (bdO vb vt vm s0 s1 s2) (w.heap.size + 1) (hO 0 0)) 12 (by kernel_rfl) ?_
  refine wk 0 21 (pq B) rfl HS.out (fun W hW => by have q0 := bkc hW.one 0; have q1 := bkc hW.one 1; have o1 := bkc hW.two 1; go_simp) ?_
  refine wk 1 22 (pq B) rfl HS.out (fun W hW => by have q0 := bkc hW.one 0; have q1 := bkc hW.one 1; have o1 := bkc hW.two 1; go_simp) ?_
  refine wk 2 23 (.pointer (some ⟨B, 1, none⟩)) rfl HS.out (fun W hW => by have q0 := bkc hW.one 0; have q1 := bkc hW.one 1; have o1 := bkc hW.two 1; go_simp) ?_
  refine wk 3 24 (vt) rfl HS.out (fun W hW => by have q0 := bkc hW.one 0; have q1 := bkc hW.one 1; have o1 := bkc hW.two 1; go_simp) ?_
  refine wk 4 25 (i64 env) rfl HS.out (fun W hW => by have q0 := bkc hW.one 0; have q1 := bkc hW.one 1; have o1 := bkc hW.two 1; go_simp) ?_
  refine wk 5 26 (.agg #[i64 sl, i64 gn]) rfl HS.out (fun W hW => by have q0 := bkc hW.one 0; have q1 := bkc hW.one 1; have o1 := bkc hW.two 1; go_simp) ?_
  simp only [Act.put, sA, sZ, sS]
  refine wpL_two 6 10 rfl rfl (by kernel_rfl) (by rfl) (by rfl) (fun K hK => ?_) (fun K hK => ?_)
  go_simp
  refine (HL.out w1.drew HB1.out.drew).mono ?_
  rintro e w2 ⟨rfl, hb2⟩
  have hb2' : Below w1.heap.size w1 w2 := below_drew hb2
  have HS2 : Hid (Sq3 w.heap.size (hO sl gn) B (bdO vb vt vm s0 s1 s2) (w.heap.size + 1) (hO 0 0) w2) := ⟨bkb HQ1.out hb2', bkb HO1.out hb2', bkb HT1.out hb2'⟩
  have HBx : Hid (Below w.heap.size w w2) := bth HB1 hb2'
  clear hb2 hb2'
  unfold Cp.Cp.v
  go_simp
  refine hK.out _ _ (fun _ => HS2.out) ?_
  clear hK K
  refine wk 7 20 (.tuple #[.agg #[i64 ce, i64 ck, i64 cn, i64 cr], i64 0]) rfl HS2.out (fun W hW => by go_simp) ?_
  refine wk 8 28 (.agg #[i64 ce, i64 ck, i64 cn, i64 cr]) rfl HS2.out (fun W hW => by go_simp) ?_
  refine wk 9 29 (i64 0) rfl HS2.out (fun W hW => by go_simp) ?_
  simp only [Act.put, sA, sZ, sS]
  refine wo 10 rfl (fun K hK => ?_)
  go_simp
  refine hK.out _ _ (fun _ => HS2.out.below (bl1 w2 _)) ?_
  clear hK K
  refine wo 11 rfl (fun K hK => ?_)
  go_simp
  refine hK.out _ _ (fun _ => HS2.out.below (bl1 w2 _)) ?_
  clear hK K
  refine wo 12 rfl (fun K hK => ?_)
  go_simp
  refine hK.out _ _ (fun h => absurd rfl h) ?_
  clear hK K
  refine wdd ?_
  refine NoPanic.normal ?_
  have HBu : Hid (Below w.heap.size w (w2.alloc (cO ⟨ce, ck, cn, cr⟩))) := bth HBx (bl1 w2 _)
  have HZu : Hid ((w2.alloc (cO ⟨ce, ck, cn, cr⟩)).heap[w2.heap.size]? = some (cO ⟨ce, ck, cn, cr⟩)) := hlx w2 _
  have HSu : Hid (Sq3 w.heap.size (hO sl gn) B (bdO vb vt vm s0 s1 s2) (w.heap.size + 1) (hO 0 0) (w2.alloc (cO ⟨ce, ck, cn, cr⟩))) := HS2.out.below (bl1 w2 _)
  have hZw : w.heap.size ≤ w2.heap.size := HBx.out.size
  unfold cO at HBu HZu HSu
  clear HS HS2 HBx HL HB1 HQ1 HO1 HT1
  generalize w2.alloc (.cells #[i64 ce, i64 ck, i64 cn, i64 cr] 108) = U at *
  generalize w2.heap.size = Z at *
  rotate_left
  go_simp
  refine hK.out _ _ (fun _ => HS.out.below (bl1 w1.drew _)) ?_
  clear hK K
  have HSA : Hid (Sq3 w.heap.size (hO sl gn) B (bdO vb vt vm s0 s1 s2) (w.heap.size + 1) (hO 0 0) (w1.alloc (cO zC)).drew) := ⟨bka HQ1.out _, bka HO1.out _, bka HT1.out _⟩
  have HZA : Hid ((w1.alloc (cO zC)).drew.heap[w1.heap.size]? = some (cO zC)) := hlx w1 _
  have HBA : Hid (Below w.heap.size w (w1.alloc (cO zC)).drew) := (HB1.out.alloc HB1.out.size _).drew
  have hZw : w.heap.size ≤ w1.heap.size := HB1.out.size
  unfold cO zC at HSA HZA HBA
  generalize (w1.alloc (.cells #[i64 0, i64 0, i64 0, i64 0] 108)).drew = V at *
  have hBZ : B < w1.heap.size := blk_lt HO1.out
  have hQZ : w.heap.size < w1.heap.size := blk_lt HQ1.out
  have hTZ : w.heap.size + 1 < w1.heap.size := blk_lt HT1.out
  generalize w1.heap.size = Z at *
  clear HS HB1 HQ1 HO1 HT1 w1
  refine wo 6 rfl (fun K hK => ?_)
  go_simp
  refine (HL.out V HBA.out).mono ?_
  rintro e w2 ⟨rfl, hb2⟩
  have HS2 : Hid (Sq3 w.heap.size (hO sl gn) B (bdO vb vt vm s0 s1 s2) (w.heap.size + 1) (hO 0 0) w2) := HSA.out.below hb2
  have HBx : Hid (Below w.heap.size w w2) := bth HBA hb2
  have HZ2 : Hid (w2.heap[Z]? = some (.cells #[i64 0, i64 0, i64 0, i64 0] 108)) := bkb HZA.out hb2
  clear hb2 HSA HBA HZA
  unfold Cp.Cp.v
  go_simp
  refine hK.out _ _ (fun _ => HS2.out) ?_
  clear hK K
  refine wk 7 20 (.tuple #[.agg #[i64 ce, i64 ck, i64 cn, i64 cr], i64 0]) rfl HS2.out (fun W hW => by go_simp) ?_
  refine wk 8 28 (.agg #[i64 ce, i64 ck, i64 cn, i64 cr]) rfl HS2.out (fun W hW => by go_simp) ?_
  refine wk 9 29 (i64 0) rfl HS2.out (fun W hW => by go_simp) ?_
  simp only [Act.put, sA, sZ, sS]
  have z0 : w2.cell? ⟨Z, 0, none⟩ = some (i64 0) := bkc HZ2.out 0
  have z1 : w2.cell? ⟨Z, 1, none⟩ = some (i64 0) := bkc HZ2.out 1
  have z2 : w2.cell? ⟨Z, 2, none⟩ = some (i64 0) := bkc HZ2.out 2
  have z3 : w2.cell? ⟨Z, 3, none⟩ = some (i64 0) := bkc HZ2.out 3
  have zf : ∀ j, w2.frozen? ⟨Z, j, none⟩ = false := bkf HZ2.out
  have HSu : Hid (Sq3 w.heap.size (hO sl gn) B (bdO vb vt vm s0 s1 s2) (w.heap.size + 1) (hO 0 0) ((((w2.setCell ⟨Z, 0, none⟩ (i64 ce)).setCell ⟨Z, 1, none⟩ (i64 ck)).setCell ⟨Z, 2, none⟩ (i64 cn)).setCell ⟨Z, 3, none⟩ (i64 cr))) := HS2.out.set4 (by omega) (by omega) (by omega) ⟨ce, ck, cn, cr⟩
  have HZu : Hid (((((w2.setCell ⟨Z, 0, none⟩ (i64 ce)).setCell ⟨Z, 1, none⟩ (i64 ck)).setCell ⟨Z, 2, none⟩ (i64 cn)).setCell ⟨Z, 3, none⟩ (i64 cr)).heap[Z]? = some (cO ⟨ce, ck, cn, cr⟩)) := Cp.set4 (d := zC) HZ2.out ⟨ce, ck, cn, cr⟩
  have HBu : Hid (Below w.heap.size w ((((w2.setCell ⟨Z, 0, none⟩ (i64 ce)).setCell ⟨Z, 1, none⟩ (i64 ck)).setCell ⟨Z, 2, none⟩ (i64 cn)).setCell ⟨Z, 3, none⟩ (i64 cr))) := Cp.bel4 HBx.out hZw ⟨ce, ck, cn, cr⟩
  refine wo 11 rfl (fun K hK => ?_)
  go_simp
  refine hK.out _ _ (fun _ => HSu.out) ?_
  clear hK K
  refine wo 12 rfl (fun K hK => ?_)
  go_simp
  refine hK.out _ _ (fun h => absurd rfl h) ?_
  clear hK K
  refine wdd ?_
  refine NoPanic.normal ?_
  clear HS2 HBx HZ2 z0 z1 z2 z3 zf HL hBZ hQZ hTZ
  unfold cO at HZu
  generalize ((((w2.setCell ⟨Z, 0, none⟩ (i64 ce)).setCell ⟨Z, 1, none⟩ (i64 ck)).setCell ⟨Z, 2, none⟩ (i64 cn)).setCell ⟨Z, 3, none⟩ (i64 cr)) = U at *
  all_goals
    have HDu : Hid (Bd U base B x t s T L R) := HD.out.below HBu.out
    have o0 : U.cell? ⟨B, 0, none⟩ = some vb := bkc HSu.out.two 0
    go_wp2_with fail
    refine (HLf.out U HBu.out).mono ?_
    rintro e w3 ⟨rfl, hb3⟩
    have HB4 : Hid (Below w.heap.size w (w3.alloc (.cells #[i64 l0, i64 l1, i64 l2] 22))) := bth (bth HBu hb3) (bl1 w3 _)
    have HS4 : Hid (Sq3 w.heap.size (hO sl gn) B (bdO vb vt vm s0 s1 s2) (w.heap.size + 1) (hO 0 0) (w3.alloc (.cells #[i64 l0, i64 l1, i64 l2] 22))) := (HSu.out.below hb3).below (bl1 w3 _)
    clear hb3 HDu HBu HSu HZu o0 HLf hZw
    go_wp2_with fail
    generalize w3.alloc (.cells #[i64 l0, i64 l1, i64 l2] 22) = w4 at *
    refine (paid_ok (HD.out.below HB4.out) HLe.out env).mono ?_
    rintro e w5 ⟨rfl, hb5⟩
    have HB5 : Hid (Below w.heap.size w w5) := bth HB4 hb5
    have HS5 : Hid (Sq3 w.heap.size (hO sl gn) B (bdO vb vt vm s0 s1 s2) (w.heap.size + 1) (hO 0 0) w5) := HS4.out.below hb5
    clear hb5 HB4 HS4
    generalize cnt L env = c at *
    go_upto_region 10 with fail
    clear hcI
    have HD5 : Hid (Bd w5 base B x t s T L R) := HD.out.below HB5.out
    have HF5 : Hid (Bf base x w w5) := Bf.of_below HB5.out HF.out
    have nk1 : w.heap.size ≠ x.kt := ne_of_obj HS5.out.one HD5.out.tb.row (by simp)
    have nk2 : B ≠ x.kt := ne_of_obj HS5.out.two HD5.out.tb.row (by simp)
    have nk3 : w.heap.size + 1 ≠ x.kt := ne_of_obj HS5.out.three HD5.out.tb.row (by simp)
    clear HB5
    have HS : Hid (Sq3 w.heap.size (hO sl gn) B (bdO vb vt vm s0 s1 s2) (w.heap.size + 1) (hO 0 0) w5.drew) := ⟨HS5.out.one, HS5.out.two, HS5.out.three⟩
    refine wp_region_noPanic ?_
    refine wrl (Sq3 w.heap.size (hO sl gn) B (bdO vb vt vm s0 s1 s2) (w.heap.size + 1) (hO 0 0)) 14 (by kernel_rfl) ?_
    refine wk 0 53 (pq B) rfl HS.out (fun W hW => by go_simp) ?_
    refine wk 1 54 (pq B) rfl HS.out (fun W hW => by go_simp) ?_
    refine wk 2 55 (.pointer (some ⟨B, 1, none⟩)) rfl HS.out (fun W hW => by go_simp) ?_
    refine wk 3 56 (vt) rfl HS.out (fun W hW => by have q0 := bkc hW.one 0; have q1 := bkc hW.one 1; have o1 := bkc hW.two 1; go_simp) ?_
    refine wk 4 57 (i64 env) rfl HS.out (fun W hW => by go_simp) ?_
    refine wk 5 58 (.agg #[i64 sl, i64 gn]) rfl HS.out (fun W hW => by have q0 := bkc hW.one 0; have q1 := bkc hW.one 1; have o1 := bkc hW.two 1; go_simp) ?_
    refine wk 6 59 (i64 tt) rfl HS.out (fun W hW => by go_simp) ?_
    refine wk 7 60 (i64 rights) rfl HS.out (fun W hW => by go_simp) ?_
    simp only [Act.put, sA, sZ, sS]
    refine wpL_two 8 12 rfl rfl (by kernel_rfl) (by rfl) (by rfl) (fun K hK => ?_) (fun K hK => ?_)
    · go_simp
      refine (HDe.out w5.drew HD5.out.drew.tb).mono ?_
      rintro e w6 ⟨rfl, ht6, hto6⟩
      have HS6 : Hid (Sq3 w.heap.size (hO sl gn) B (bdO vb vt vm s0 s1 s2) (w.heap.size + 1) (hO 0 0) w6) := HS.out.touch hto6 nk1 nk2 nk3
      have HD6x : Hid (Bd w6 base B x t s T' L R) := HD5.out.drew.table ht6 hto6
      have HF6x : Hid (Bf base x w w6) := HF5.out.trans (Bf.of_drew (HD5.out.drew.table_f hto6))
      clear ht6 hto6
      go_simp
      refine hK.out _ _ (fun _ => HS6.out) ?_
      clear hK K
      refine wk 9 52 (.tuple #[.agg #[i64 (q : Nat), i64 g'], i64 0]) rfl HS6.out (fun W hW => by go_simp) ?_
      refine wk 10 62 (.agg #[i64 (q : Nat), i64 g']) rfl HS6.out (fun W hW => by go_simp) ?_
      refine wk 11 63 (i64 0) rfl HS6.out (fun W hW => by go_simp) ?_
      simp only [Act.put, sA, sZ, sS]
      refine wo 12 rfl (fun K hK => ?_)
      go_simp
      refine hK.out _ _ (fun _ => HS6.out.below (bl1 w6 _)) ?_
      clear hK K
      refine wo 13 rfl (fun K hK => ?_)
      go_simp
      refine hK.out _ _ (fun _ => HS6.out.below (bl1 w6 _)) ?_
      clear hK K
      refine wo 14 rfl (fun K hK => ?_)
      go_simp
      refine hK.out _ _ (fun h => absurd rfl h) ?_
      clear hK K
      refine wdd ?_
      refine NoPanic.normal ?_
      have HD6 : Hid (Bd (w6.alloc (.cells #[i64 (q : Nat), i64 g'] 43)) base B x t s T' L R) := HD6x.out.below (bl1 w6 _)
      have HF6 : Hid (Bf base x w (w6.alloc (.cells #[i64 (q : Nat), i64 g'] 43))) := HF6x.out.trans (Bf.of_below (bl1 w6 _) HD6x.out.lo')
      have HY6 : Hid ((w6.alloc (.cells #[i64 (q : Nat), i64 g'] 43)).heap[w6.heap.size]? = some (hO (q : Nat) g')) := hlx w6 _
      have HR6 : Hid ((w6.alloc (.cells #[i64 (q : Nat), i64 g'] 43)).heap[w.heap.size + 1]? = some (hO 0 0)) := bka HS6.out.three _
      have HO6 : Hid ((w6.alloc (.cells #[i64 (q : Nat), i64 g'] 43)).heap[B]? = some (bdO vb vt vm s0 s1 s2)) := bka HS6.out.two _
      clear HS6 HD6x HF6x
      generalize w6.alloc (.cells #[i64 (q : Nat), i64 g'] 43) = U2 at *
      generalize w6.heap.size = Z2 at *
      clear HS HS5 HD5 HF5 nk1 nk2 nk3 HDe HD HLe
      go_upto_region 12 with fail
      obtain ⟨w7, hrun7, hm7, hto7, hsz7⟩ := HD6.out.drew.mp.put ((q : Int), g') (tt, env) HNew.out
      have hr7 : (Instr.mapUpdate 68 vm (.agg #[i64 (q : Nat), i64 g']) (.agg #[i64 tt, i64 env])).run Try.prog U2.drew = .ok () w7 := by rw [← HVm.out]; exact hrun7
      have HD7 : Hid (Bd w7 base B x t s T' (L ++ [(((q : Int), g'), (tt, env))]) R) := HD6.out.drew.bills hm7 hto7
      have HF7 : Hid (Bf base x w w7) := HF6.out.trans (Bf.of_drew (HD6.out.drew.bills_f hto7))
      have HQ7 : Hid (w7.heap[w.heap.size + 1]? = some (hO 0 0)) := (hto7.block _ (blk_lt HR6.out) (HD6.out.mp.ne HR6.out)).trans HR6.out
      have HZ7 : Hid (w7.heap[Z2]? = some (hO (q : Nat) g')) := (hto7.block _ (blk_lt HY6.out) (HD6.out.mp.ne HY6.out)).trans HY6.out
      have HS : Hid (Sq2 Z2 (hO (q : Nat) g') B (bdO vb vt vm s0 s1 s2) U2.drew) := ⟨HY6.out, HO6.out⟩
      clear hrun7 hm7 hto7 hsz7 HF6 HR6 HY6 HO6 HD6 HNew HVm
      refine wp_region_noPanic ?_
      refine wrl (Sq2 Z2 (hO (q : Nat) g') B (bdO vb vt vm s0 s1 s2)) 8 (by kernel_rfl) ?_
      refine wk 0 66 (pq B) rfl HS.out (fun W hW => by go_simp) ?_
      refine wk 1 67 (pq B) rfl HS.out (fun W hW => by go_simp) ?_
      refine wk 2 68 (.pointer (some ⟨B, 2, none⟩)) rfl HS.out (fun W hW => by go_simp) ?_
      refine wk 3 69 (vm) rfl HS.out (fun W hW => by have q0 := bkc hW.one 0; have q1 := bkc hW.one 1; have o2 := bkc hW.two 2; go_simp) ?_
      refine wk 4 70 (.agg #[i64 (q : Nat), i64 g']) rfl HS.out (fun W hW => by have q0 := bkc hW.one 0; have q1 := bkc hW.one 1; have o2 := bkc hW.two 2; go_simp) ?_
      refine wk 5 71 (i64 tt) rfl HS.out (fun W hW => by go_simp) ?_
      refine wk 6 72 (i64 env) rfl HS.out (fun W hW => by go_simp) ?_
      refine wk 7 73 (.agg #[i64 tt, i64 env]) rfl HS.out (fun W hW => by go_simp) ?_
      simp only [Act.put, sA, sZ, sS]
      refine wo 8 rfl (fun K hK => ?_)
      go_simp
      refine hK.out _ _ (fun h => absurd rfl h) ?_
      clear hK K
      refine wdd ?_
      refine NoPanic.normal ?_
      clear HS hr7
      have y0 : w7.cell? ⟨Z2, 0, none⟩ = some (i64 (q : Nat)) := bkc HZ7.out 0
      have y1 : w7.cell? ⟨Z2, 1, none⟩ = some (i64 g') := bkc HZ7.out 1
      have z0 : w7.cell? ⟨w.heap.size + 1, 0, none⟩ = some (i64 0) := bkc HQ7.out 0
      have z1 : w7.cell? ⟨w.heap.size + 1, 1, none⟩ = some (i64 0) := bkc HQ7.out 1
      have zf : ∀ j, w7.frozen? ⟨w.heap.size + 1, j, none⟩ = false := bkf HQ7.out
      go_wp2_with fail
      have ht8 := touch_set2 w7 (w.heap.size + 1) 0 1 (i64 (q : Nat)) (i64 g')
      exact bodyPost_ret (Cp.results_cell Try.results24 rfl rfl (Cp.load42 (Cp.set2 HQ7.out _ _))) rfl ⟨rfl, HD7.out.box HQ7.out (fun j hj => by have := hgs j hj; omega) ht8, HF7.out.box (by omega) HF.out ht8⟩
    · go_simp
      refine hK.out _ _ (fun _ => HS.out.below (bl1 w5.drew _)) ?_
      clear hK K
      have HSA : Hid (Sq3 w.heap.size (hO sl gn) B (bdO vb vt vm s0 s1 s2) (w.heap.size + 1) (hO 0 0) (w5.alloc (hO 0 0)).drew) := ⟨bka HS5.out.one _, bka HS5.out.two _, bka HS5.out.three _⟩
      have HZA : Hid ((w5.alloc (hO 0 0)).drew.heap[w5.heap.size]? = some (hO 0 0)) := hlx w5 _
      have HDA : Hid (Bd (w5.alloc (hO 0 0)).drew base B x t s T L R) := (HD5.out.below (bl1 w5 _)).drew
      have HFA : Hid (Bf base x w (w5.alloc (hO 0 0)).drew) := (HF5.out.trans (Bf.of_below (bl1 w5 _) HD5.out.lo')).drew
      have hZw : w.heap.size ≤ w5.heap.size := HF5.out.size
      have hT5 : w.heap.size + 1 < w5.heap.size := blk_lt HS5.out.three
      unfold hO at HSA HZA HDA HFA
      generalize (w5.alloc (.cells #[i64 0, i64 0] 43)).drew = V at *
      generalize w5.heap.size = Z2 at *
      refine wo 8 rfl (fun K hK => ?_)
      go_simp
      refine (HDe.out V HDA.out.tb).mono ?_
      rintro e w6 ⟨rfl, ht6, hto6⟩
      have HS6 : Hid (Sq3 w.heap.size (hO sl gn) B (bdO vb vt vm s0 s1 s2) (w.heap.size + 1) (hO 0 0) w6) := HSA.out.touch hto6 nk1 nk2 nk3
      have HD6x : Hid (Bd w6 base B x t s T' L R) := HDA.out.table ht6 hto6
      have HF6x : Hid (Bf base x w w6) := HFA.out.trans (HDA.out.table_f hto6)
      have HZ6 : Hid (w6.heap[Z2]? = some (.cells #[i64 0, i64 0] 43)) := (hto6.block _ (blk_lt HZA.out) (ne_of_obj HZA.out HDA.out.tb.row (by simp))).trans HZA.out
      clear ht6 hto6 HSA HZA HDA HFA
      go_simp
      refine hK.out _ _ (fun _ => HS6.out) ?_
      clear hK K
      refine wk 9 52 (.tuple #[.agg #[i64 (q : Nat), i64 g'], i64 0]) rfl HS6.out (fun W hW => by go_simp) ?_
      refine wk 10 62 (.agg #[i64 (q : Nat), i64 g']) rfl HS6.out (fun W hW => by go_simp) ?_
      refine wk 11 63 (i64 0) rfl HS6.out (fun W hW => by go_simp) ?_
      simp only [Act.put, sA, sZ, sS]
      have z0 : w6.cell? ⟨Z2, 0, none⟩ = some (i64 0) := bkc HZ6.out 0
      have z1 : w6.cell? ⟨Z2, 1, none⟩ = some (i64 0) := bkc HZ6.out 1
      have zf : ∀ j, w6.frozen? ⟨Z2, j, none⟩ = false := bkf HZ6.out
      have ht7 := touch_set2 w6 Z2 0 1 (i64 (q : Nat)) (i64 g')
      have HSu : Hid (Sq3 w.heap.size (hO sl gn) B (bdO vb vt vm s0 s1 s2) (w.heap.size + 1) (hO 0 0) ((w6.setCell ⟨Z2, 0, none⟩ (i64 (q : Nat))).setCell ⟨Z2, 1, none⟩ (i64 g'))) := HS6.out.touch ht7 (by omega) (by omega) (by omega)
      have HD6 : Hid (Bd ((w6.setCell ⟨Z2, 0, none⟩ (i64 (q : Nat))).setCell ⟨Z2, 1, none⟩ (i64 g')) base B x t s T' L R) := HD6x.out.box HZ6.out (fun j hj => by have := hgs j hj; omega) ht7
      have HF6 : Hid (Bf base x w ((w6.setCell ⟨Z2, 0, none⟩ (i64 (q : Nat))).setCell ⟨Z2, 1, none⟩ (i64 g'))) := HF6x.out.box hZw HF.out ht7
      have HY6 : Hid (((w6.setCell ⟨Z2, 0, none⟩ (i64 (q : Nat))).setCell ⟨Z2, 1, none⟩ (i64 g')).heap[Z2]? = some (hO (q : Nat) g')) := Cp.set2 HZ6.out _ _
      clear ht7
      refine wo 13 rfl (fun K hK => ?_)
      go_simp
      refine hK.out _ _ (fun _ => HSu.out) ?_
      clear hK K
      refine wo 14 rfl (fun K hK => ?_)
      go_simp
      refine hK.out _ _ (fun h => absurd rfl h) ?_
      clear hK K
      refine wdd ?_
      refine NoPanic.normal ?_
      have HR6 : Hid (((w6.setCell ⟨Z2, 0, none⟩ (i64 (q : Nat))).setCell ⟨Z2, 1, none⟩ (i64 g')).heap[w.heap.size + 1]? = some (hO 0 0)) := HSu.out.three
      have HO6 : Hid (((w6.setCell ⟨Z2, 0, none⟩ (i64 (q : Nat))).setCell ⟨Z2, 1, none⟩ (i64 g')).heap[B]? = some (bdO vb vt vm s0 s1 s2)) := HSu.out.two
      clear HS6 HD6x HF6x HZ6 z0 z1 zf HSu hZw hT5
      generalize ((w6.setCell ⟨Z2, 0, none⟩ (i64 (q : Nat))).setCell ⟨Z2, 1, none⟩ (i64 g')) = U2 at *
      clear HS HS5 HD5 HF5 nk1 nk2 nk3 HDe HD HLe
      go_upto_region 12 with fail
      obtain ⟨w7, hrun7, hm7, hto7, hsz7⟩ := HD6.out.drew.mp.put ((q : Int), g') (tt, env) HNew.out
      have hr7 : (Instr.mapUpdate 68 vm (.agg #[i64 (q : Nat), i64 g']) (.agg #[i64 tt, i64 env])).run Try.prog U2.drew = .ok () w7 := by rw [← HVm.out]; exact hrun7
      have HD7 : Hid (Bd w7 base B x t s T' (L ++ [(((q : Int), g'), (tt, env))]) R) := HD6.out.drew.bills hm7 hto7
      have HF7 : Hid (Bf base x w w7) := HF6.out.trans (Bf.of_drew (HD6.out.drew.bills_f hto7))
      have HQ7 : Hid (w7.heap[w.heap.size + 1]? = some (hO 0 0)) := (hto7.block _ (blk_lt HR6.out) (HD6.out.mp.ne HR6.out)).trans HR6.out
      have HZ7 : Hid (w7.heap[Z2]? = some (hO (q : Nat) g')) := (hto7.block _ (blk_lt HY6.out) (HD6.out.mp.ne HY6.out)).trans HY6.out
      have HS : Hid (Sq2 Z2 (hO (q : Nat) g') B (bdO vb vt vm s0 s1 s2) U2.drew) := ⟨HY6.out, HO6.out⟩
      clear hrun7 hm7 hto7 hsz7 HF6 HR6 HY6 HO6 HD6 HNew HVm
      refine wp_region_noPanic ?_
      refine wrl (Sq2 Z2 (hO (q : Nat) g') B (bdO vb vt vm s0 s1 s2)) 8 (by kernel_rfl) ?_
      refine wk 0 66 (pq B) rfl HS.out (fun W hW => by go_simp) ?_
      refine wk 1 67 (pq B) rfl HS.out (fun W hW => by go_simp) ?_
      refine wk 2 68 (.pointer (some ⟨B, 2, none⟩)) rfl HS.out (fun W hW => by go_simp) ?_
      refine wk 3 69 (vm) rfl HS.out (fun W hW => by have q0 := bkc hW.one 0; have q1 := bkc hW.one 1; have o2 := bkc hW.two 2; go_simp) ?_
      refine wk 4 70 (.agg #[i64 (q : Nat), i64 g']) rfl HS.out (fun W hW => by have q0 := bkc hW.one 0; have q1 := bkc hW.one 1; have o2 := bkc hW.two 2; go_simp) ?_
      refine wk 5 71 (i64 tt) rfl HS.out (fun W hW => by go_simp) ?_
      refine wk 6 72 (i64 env) rfl HS.out (fun W hW => by go_simp) ?_
      refine wk 7 73 (.agg #[i64 tt, i64 env]) rfl HS.out (fun W hW => by go_simp) ?_
      simp only [Act.put, sA, sZ, sS]
      refine wo 8 rfl (fun K hK => ?_)
      go_simp
      refine hK.out _ _ (fun h => absurd rfl h) ?_
      clear hK K
      refine wdd ?_
      refine NoPanic.normal ?_
      clear HS hr7
      have y0 : w7.cell? ⟨Z2, 0, none⟩ = some (i64 (q : Nat)) := bkc HZ7.out 0
      have y1 : w7.cell? ⟨Z2, 1, none⟩ = some (i64 g') := bkc HZ7.out 1
      have z0 : w7.cell? ⟨w.heap.size + 1, 0, none⟩ = some (i64 0) := bkc HQ7.out 0
      have z1 : w7.cell? ⟨w.heap.size + 1, 1, none⟩ = some (i64 0) := bkc HQ7.out 1
      have zf : ∀ j, w7.frozen? ⟨w.heap.size + 1, j, none⟩ = false := bkf HQ7.out
      go_wp2_with fail
      have ht8 := touch_set2 w7 (w.heap.size + 1) 0 1 (i64 (q : Nat)) (i64 g')
      exact bodyPost_ret (Cp.results_cell Try.results24 rfl rfl (Cp.load42 (Cp.set2 HQ7.out _ _))) rfl ⟨rfl, HD7.out.box HQ7.out (fun j hj => by have := hgs j hj; omega) ht8, HF7.out.box (by omega) HF.out ht8⟩
end Go.Proofs.Ytnknhencobhjdaa
