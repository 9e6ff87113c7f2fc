/- No statement here. -/
import Derived.Test.YtnknhencobhjdaaMSk0
set_option maxRecDepth 100000
namespace Go.Proofs.Ytnknhencobhjdaa
open Go.ChangeShapes Go.WideShapes Go.ChangeAt Go.RowKit Go.Deep Go.ChangeMaps Go.MapKept
open Go.Proofs.Ytnknhencobhjdaa.Cp (pq hid bl1 hO cO zC looks_nil)
open Go.Proofs.Ytnknhencobhjdaa.Qt (zT badB)
structure SqM (p : Nat) (P : Obj) (q : Nat) (Q : Obj) (m : Nat) (L : Ls) (W : World) : Prop where
  one : W.heap[p]? = some P
  two : W.heap[q]? = some Q
  map : MapIs W m L
theorem SqM.below {p q m : Nat} {P Q : Obj} {L : Ls} {W W' : World} (h : SqM p P q Q m L W) (hb : Below W.heap.size W W') : SqM p P q Q m L W' := ⟨bkb h.one hb, bkb h.two hb, h.map.kept (hb.block _ h.map.lt)⟩
theorem bil_v {W : World} {m : Nat} {L : Ls} (h : MapIs W m L) (a c : Int) : (Instr.lookup 68 (.map (some m)) (.agg #[i64 a, i64 c]) true).run Try.prog W = .ok (.tuple #[.agg #[i64 ((bil L (a, c)).getD (0, 0)).1, i64 ((bil L (a, c)).getD (0, 0)).2], .bool (bil L (a, c)).isSome]) W := h.lkup (a, c) true
theorem Sq3.drew {p q r : Nat} {P Q R : Obj} {W : World} (h : Sq3 p P q Q r R W) : Sq3 p P q Q r R W.drew := ⟨h.one, h.two, h.three⟩
theorem It.iter {w : World} {b r : Nat} {L M : Ls} (h : It w b r L M) : ∃ m a S c, w.heap[r]? = some (.mapIter m a S c) := by
  obtain ⟨es, clock, since, seen, c0, h1, h2, h3, h4⟩ := h
  exact ⟨_, _, _, _, h3⟩
theorem Bd.iter {w w' : World} {base b : Nat} {x : Bx} {t : Qt.T} {s : Qt.St} {T : List Cp.Pl} {L : Ls} {R : Nat → List Hn} (h : Bd w base b x t s T L R) {z : Nat} (hz : ∃ m a S c, w.heap[z]? = some (.mapIter m a S c)) (hto : Touch z w w') : Bd w' base b x t s T L R := by
  obtain ⟨m, a, S, c, hz⟩ := hz
  have keep : ∀ {k : Nat} {o : Obj}, w.heap[k]? = some o → o ≠ .mapIter m a S c → w'.heap[k]? = some o := fun hk hne => (hto.block _ (blk_lt hk) (ne_of_obj hk hz hne)).trans hk
  refine ⟨keep h.row (by simp), h.lo, h.bk.same (fun k o hk ho => keep hk (fun e => ?_)), ⟨h.tb.lo, h.tb.len, keep h.tb.row (by simp)⟩, ?_, h.mlo, fun k hk => ⟨keep (h.rt k hk).1 (by simp), (h.rt k hk).2⟩, h.ap, h.len⟩
  · obtain ⟨C, rfl | rfl⟩ := ho <;> cases e
  · obtain ⟨es, clock, hb, g⟩ := h.mp
    exact ⟨es, clock, keep hb (by simp), g⟩
set_option maxHeartbeats 6400000 in
theorem strike_ok {w : World} {base b : Nat} {x : Bx} {t : Qt.T} {s : Qt.St} {T : List Cp.Pl} {L : Ls} {R : Nat → List Hn} (h : Bd w base b x t s T L R) : Calls Try.prog 56 #[pq b] w fun e w' => e = .returned (.tuple #[]) ∧ Bd w' base b x t s T (strL T L) (mixR R (strL T L) 3) ∧ Bf base x w w' := by
  have HF : Hid (base ≤ w.heap.size) := h.lo'
  have hgs : ∀ j, j < 3 → x.g j < w.heap.size := fun j hj => blk_lt (h.rt j hj).1
  obtain ⟨o, hrun, hit⟩ := h.mp.range
  have b2 : w.cell? ⟨b, 2, none⟩ = some (.map (some x.km)) := bkc h.row 2
  have HR := hid hrun
  have HI : Hid (It (w.alloc o) x.km w.heap.size L L) := hit
  have HD0 : Hid (Bd (w.alloc o) base b x t s T L R) := h.below (bl1 w o)
  have HF0 : Hid (Bf base x w (w.alloc o)) := Bf.of_below (bl1 w o) h.lo'
  clear h hrun hit
  go_enter Try.func56, Try.ntmps56
  go_wp2_with (at_range; refine wpList_range_run rfl _ 68 rfl _ _ HR.out ?_; go_frame)
  clear HR b2
  go_loopw [] (fun wr => ∃ (Lc M : Ls), Sk T L Lc M ∧ Hid (It wr x.km w.heap.size Lc M) ∧ Hid (Bd wr base b x t s T Lc R) ∧ Hid (Bf base x w wr)) (fun wr => wr.rangeLeft x.km w.heap.size)
  case atStart => exact ⟨L, L, Sk.start T L, HI, HD0, HF0⟩
  case round =>
    obtain ⟨Lc, M, hsk, HIr, HDr, HFr⟩ := hrel
    have HSk := hid hsk
    clear hsk HI HD0 HF0
    have c3 : wr.cell? ⟨b, 3, none⟩ = some (slV (x.g 0) (R 0).length) := bkc HDr.out.row 3
    have c4 : wr.cell? ⟨b, 4, none⟩ = some (slV (x.g 1) (R 1).length) := bkc HDr.out.row 4
    have c5 : wr.cell? ⟨b, 5, none⟩ = some (slV (x.g 2) (R 2).length) := bkc HDr.out.row 5
    go_wp2_with (at_next; refine wpList_next_it rfl _ rfl rfl HIr.out ?_ ?_)
    · intro hM
      subst hM
      have hLc := HSk.out.done
      subst hLc
      clear HSk HIr
      go_wp2_with fail
      clear c3 c4 c5
      have HD2 : Hid (Bd wr base b x t s T (strL T L) (mixR R (strL T L) 0)) := HDr
      clear HDr
      go_loopw [44] (fun u44 wq => ∃ k : Nat, k ≤ 3 ∧ u44 = i64 k ∧ Hid (Bd wq base b x t s T (strL T L) (mixR R (strL T L) k)) ∧ Hid (Bf base x w wq)) (fun u _ => 3 - (intOf u).toNat)
      case atStart => exact ⟨0, by omega, rfl, HD2, HFr⟩
      case round =>
        obtain ⟨k, hk, rfl, HDq, HFq⟩ := hrel
        clear HD2 HFr
        by_cases hlt : k < 3
        · have hkI : (k : Int) < 3 := by omega
          have hix : (Instr.index 69 (.agg #[slV (x.g 0) (R 0).length, slV (x.g 1) (R 1).length, slV (x.g 2) (R 2).length]) (i64 k)).run Try.prog wr = .ok (slV (x.g k) (R k).length) wr := by
            obtain rfl | rfl | rfl : k = 0 ∨ k = 1 ∨ k = 2 := by omega
            all_goals kernel_rfl
          have hlen : (R k).length ≤ 64 := by have := HDq.out.len k hlt; rwa [mixR_len] at this
          go_wp2_with fail
          clear hix
          have HDn : Hid (Bd wr base b x t s T (strL T L) (mixN R (strL T L) k 0)) := by rw [mixN_zero]; exact HDq
          clear HDq
          go_loopw [49] (fun u49 wq => ∃ n : Nat, n ≤ (R k).length ∧ u49 = i64 n ∧ Hid (Bd wq base b x t s T (strL T L) (mixN R (strL T L) k n)) ∧ Hid (Bf base x w wq)) (fun u _ => (R k).length - (intOf u).toNat)
          case atStart => exact ⟨0, by omega, rfl, HDn, HFq⟩
          case round =>
            obtain ⟨n, hn, rfl, HDi, HFi⟩ := hrel
            clear HDn HFq
            by_cases hnl : n < (R k).length
            · have hnI : (n : Int) < ((R k).length : Int) := by omega
              obtain ⟨⟨r0, r1⟩, hrn⟩ : ∃ p, (R k)[n]? = some p := ⟨(R k)[n], List.getElem?_eq_getElem hnl⟩
              obtain ⟨e0, e1⟩ := rt_cells (HDi.out.rt k hlt).1 (mixN_get R (strL T L) k n _ hrn)
              simp only at e0 e1
              have HRn := hid hrn
              clear hrn
              go_upto_region 12 with fail
              clear e0 e1
              have HDV : Hid (Bd (wr.alloc (.cells #[i64 r0, i64 r1] 43)) base b x t s T (strL T L) (mixN R (strL T L) k n)) := HDi.out.below (bl1 wr _)
              have HFV : Hid (Bf base x w (wr.alloc (.cells #[i64 r0, i64 r1] 43))) := HFi.out.trans (Bf.of_below (bl1 wr _) HDi.out.lo')
              have HBV : Hid ((wr.alloc (.cells #[i64 r0, i64 r1] 43)).heap[wr.heap.size]? = some (hO r0 r1)) := hlx wr _
              clear HDi HFi
              generalize wr.alloc (.cells #[i64 r0, i64 r1] 43) = V at *
              generalize wr.heap.size = Y at *
              obtain ⟨s0, hs0⟩ : ∃ s0, slV (x.g 0) (mixN R (strL T L) k n 0).length = s0 := ⟨_, rfl⟩
              obtain ⟨s1, hs1⟩ : ∃ s1, slV (x.g 1) (mixN R (strL T L) k n 1).length = s1 := ⟨_, rfl⟩
              obtain ⟨s2, hs2⟩ : ∃ s2, slV (x.g 2) (mixN R (strL T L) k n 2).length = s2 := ⟨_, rfl⟩
              have hrow := HDV.out.row
              rw [hs0, hs1, hs2] at hrow
              have HS : Hid (SqM Y (hO r0 r1) b (bdO (pq x.kb) (pq x.kt) (.map (some x.km)) s0 s1 s2) x.km (strL T L) V.drew) := ⟨HBV.out, hrow, HDV.out.mp.kept rfl⟩
              clear hrow hs0 hs1 hs2
              obtain ⟨d0, hd0⟩ : ∃ d0, ((bil (strL T L) (r0, r1)).getD (0, 0)).1 = d0 := ⟨_, rfl⟩
              obtain ⟨d1, hd1⟩ : ∃ d1, ((bil (strL T L) (r0, r1)).getD (0, 0)).2 = d1 := ⟨_, rfl⟩
              obtain ⟨fnd, hfn⟩ : ∃ fnd, (bil (strL T L) (r0, r1)).isSome = fnd := ⟨_, rfl⟩
              have HLk : Hid (∀ W, MapIs W x.km (strL T L) → (Instr.lookup 68 (.map (some x.km)) (.agg #[i64 r0, i64 r1]) true).run Try.prog W = .ok (.tuple #[.agg #[i64 d0, i64 d1], .bool fnd]) W) := fun W hW => by
                have := bil_v hW r0 r1
                rw [hd0, hd1, hfn] at this
                exact this
              have HFn : Hid (strR (strL T L) (r0, r1) = if fnd then (r0, r1) else (0, 0)) := by unfold strR; rw [hfn]; exact hid rfl
              clear hd0 hd1 hfn
              refine wp_region_noPanic ?_
              refine wrl (SqM Y (hO r0 r1) b (bdO (pq x.kb) (pq x.kt) (.map (some x.km)) s0 s1 s2) x.km (strL T L)) 11 (by kernel_rfl) ?_
              refine wk 0 55 (pq b) rfl HS.out (fun W hW => by go_simp) ?_
              refine wk 1 56 (pq b) rfl HS.out (fun W hW => by go_simp) ?_
              refine wk 2 57 (.pointer (some ⟨b, 2, none⟩)) rfl HS.out (fun W hW => by go_simp) ?_
              refine wk 3 58 (.map (some x.km)) rfl HS.out (fun W hW => by have q0 := bkc hW.one 0; have q1 := bkc hW.one 1; have o2 := bkc hW.two 2; go_simp) ?_
              refine wk 4 59 (.agg #[i64 r0, i64 r1]) rfl HS.out (fun W hW => by have q0 := bkc hW.one 0; have q1 := bkc hW.one 1; have o2 := bkc hW.two 2; go_simp) ?_
              refine wk 5 60 (.tuple #[.agg #[i64 d0, i64 d1], .bool fnd]) rfl HS.out (fun W hW => by have lk := HLk.out W hW.map; go_simp) ?_
              refine wk 6 54 (.tuple #[.agg #[i64 d0, i64 d1], .bool fnd]) rfl HS.out (fun W hW => by go_simp) ?_
              refine wk 7 61 (.agg #[i64 d0, i64 d1]) rfl HS.out (fun W hW => by go_simp) ?_
              refine wk 8 62 (.bool fnd) rfl HS.out (fun W hW => by go_simp) ?_
              simp only [Act.put, sA, sZ, sS]
              refine wo 9 rfl (fun K hK => ?_)
              go_simp
              refine hK.out _ _ (fun _ => HS.out.below (bl1 V.drew _)) ?_
              clear hK K
              refine wo 10 rfl (fun K hK => ?_)
              go_simp
              refine hK.out _ _ (fun _ => HS.out.below (bl1 V.drew _)) ?_
              clear hK K
              refine wo 11 rfl (fun K hK => ?_)
              go_simp
              refine hK.out _ _ (fun h => absurd rfl h) ?_
              clear hK K
              refine wdd ?_
              refine NoPanic.normal ?_
              have HDU : Hid (Bd (V.alloc (.cells #[i64 d0, i64 d1] 104)).drew base b x t s T (strL T L) (mixN R (strL T L) k n)) := (HDV.out.below (bl1 V _)).drew
              have HFU : Hid (Bf base x w (V.alloc (.cells #[i64 d0, i64 d1] 104)).drew) := (HFV.out.trans (Bf.of_below (bl1 V _) HDV.out.lo')).drew
              clear HDV HFV HBV HS HLk
              generalize (V.alloc (.cells #[i64 d0, i64 d1] 104)).drew = U at *
              cases fnd
              · obtain ⟨e0, e1⟩ := rt_cells (HDU.out.rt k hlt).1 (mixN_get R (strL T L) k n _ HRn.out)
                simp only at e0 e1
                have ef : ∀ j, U.frozen? ⟨x.g k, j, none⟩ = false := bkf (HDU.out.rt k hlt).1
                go_wp2_with fail
                have ht8 := touch_set2 U (x.g k) (n * 2) (n * 2 + 1) (i64 0) (i64 0)
                have hl8 : n < (mixN R (strL T L) k n k).length := by rw [mixN_len]; exact hnl
                have HD8 := HDU.out.root hlt (R' := (mixN R (strL T L) k n k).set n (0, 0)) (by simp) (rt_set (HDU.out.rt k hlt).1 hl8 0 0) ht8
                have hnx := mixN_next R (strL T L) k n (r0, r1) HRn.out
                rw [HFn.out] at hnx
                exact ⟨⟨n + 1, by omega, by go_num, by rw [hnx]; exact HD8, HFU.out.trans (HDU.out.root_f hlt ht8)⟩, by simp [intOf]; omega⟩
              · go_wp2_with fail
                exact ⟨⟨n + 1, by omega, by go_num, by rw [mixN_stay R (strL T L) k n (r0, r1) HRn.out (by rw [HFn.out]; rfl)]; exact HDU, HFU⟩, by simp [intOf]; omega⟩
            · obtain rfl : n = (R k).length := by omega
              go_wp2_with fail
              exact ⟨⟨k + 1, by omega, by go_num, by rw [mixN_all] at HDi; exact HDi, HFi⟩, by simp [intOf]; omega⟩
        · obtain rfl : k = 3 := by omega
          go_wp2_with fail
          go_end0
          exact ⟨rfl, HDq.out, HFq.out⟩
    · intro j p0 p1 p2 p3 w2 hj hpL hit2 hto hsz hen
      clear c3 c4 c5 hsz
      have hndM : ND M := nd_sub HIr.out.map.nd HIr.out.sub
      have hmea : (M.eraseIdx j).length < M.length := by
        have := (List.getElem?_eq_some_iff.1 hj).1
        rw [List.length_eraseIdx_of_lt this]
        omega
      have hlr := HIr.out.left
      have HK : Hid (alv T ((p0, p1), (p2, p3)) = true → Sk T L Lc (M.eraseIdx j)) := HSk.out.keep hndM hj
      have HG : Hid (alv T ((p0, p1), (p2, p3)) = false → Sk T L (dl Lc (p0, p1)) (M.eraseIdx j)) := HSk.out.gone HIr.out.map.nd hndM hpL hj
      have HNe : Hid (∀ q ∈ M.eraseIdx j, q.1 ≠ (p0, p1)) := fun q hq => by
        rw [erase_dl hndM hj] at hq
        simpa using (List.mem_filter.1 hq).2
      have HpL : Hid (∃ q ∈ Lc, q.1 = (p0, p1)) := ⟨_, hpL, rfl⟩
      have hD2 : Bd w2 base b x t s T Lc R := HDr.out.iter HIr.out.iter hto
      have HI3 : Hid (It ((w2.alloc (.cells #[i64 p0, i64 p1] 43)).alloc (.cells #[i64 p2, i64 p3] 104)) x.km w.heap.size Lc (M.eraseIdx j)) := hit2.below (bel_two w2 _ _).out
      have HD3 : Hid (Bd ((w2.alloc (.cells #[i64 p0, i64 p1] 43)).alloc (.cells #[i64 p2, i64 p3] 104)) base b x t s T Lc R) := hD2.below (bel_two w2 _ _).out
      have HF3 : Hid (Bf base x w ((w2.alloc (.cells #[i64 p0, i64 p1] 43)).alloc (.cells #[i64 p2, i64 p3] 104))) := (HFr.out.box (Nat.le_refl _) HF.out hto).trans (Bf.of_below (bel_two w2 _ _).out hD2.lo')
      have HH3 : Hid (((w2.alloc (.cells #[i64 p0, i64 p1] 43)).alloc (.cells #[i64 p2, i64 p3] 104)).heap[w2.heap.size]? = some (hO p0 p1)) := bka (hlx w2 _) _
      have HC3 : Hid (((w2.alloc (.cells #[i64 p0, i64 p1] 43)).alloc (.cells #[i64 p2, i64 p3] 104)).heap[w2.heap.size + 1]? = some (.cells #[i64 p2, i64 p3] 104)) := by
        have := hlx (w2.alloc (hO p0 p1)) (.cells #[i64 p2, i64 p3] 104)
        rwa [show (w2.alloc (hO p0 p1)).heap.size = w2.heap.size + 1 by simp] at this
      clear hj hpL hit2 hto hndM HIr HDr HFr HSk hD2
      go_upto_region 3 with fail
      clear hen
      generalize (w2.alloc (.cells #[i64 p0, i64 p1] 43)).alloc (.cells #[i64 p2, i64 p3] 104) = w3 at *
      generalize w2.heap.size = H at *
      obtain ⟨vt, hvt⟩ : ∃ vt, pq x.kt = vt := ⟨_, rfl⟩
      obtain ⟨vb, hvb⟩ : ∃ vb, pq x.kb = vb := ⟨_, rfl⟩
      obtain ⟨vm, hvm⟩ : ∃ vm, Value.map (some x.km) = vm := ⟨_, rfl⟩
      obtain ⟨s0, hs0⟩ : ∃ s0, slV (x.g 0) (R 0).length = s0 := ⟨_, rfl⟩
      obtain ⟨s1, hs1⟩ : ∃ s1, slV (x.g 1) (R 1).length = s1 := ⟨_, rfl⟩
      obtain ⟨s2, hs2⟩ : ∃ s2, slV (x.g 2) (R 2).length = s2 := ⟨_, rfl⟩
      have hrow := HD3.out.row
      rw [hs0, hs1, hs2, hvt, hvb, hvm] at hrow
      have HS0 : Hid (Sq3 H (hO p0 p1) b (bdO vb vt vm s0 s1 s2) (H + 1) (.cells #[i64 p2, i64 p3] 104) w3) := ⟨HH3.out, hrow, HC3.out⟩
      obtain ⟨ce, ck, cn, cr, ex, hex, hLk⟩ : ∃ ce ck cn cr ex, ((ex = 0 ∧ alv T ((p0, p1), (p2, p3)) = true) ∨ (ex = 90 ∧ alv T ((p0, p1), (p2, p3)) = false)) ∧ Cp.Looks w3 vt p2 p0 p1 ⟨ce, ck, cn, cr⟩ ex := by
        have h1 := Cp.looks_tb HD3.out.tb p2 p0 p1
        rw [← hvt]
        cases hl : Cp.lookF T p2 p0 p1 with
        | none =>
          rw [hl] at h1
          exact ⟨0, 0, 0, 0, 90, Or.inr ⟨rfl, by simp [alv, hl]⟩, h1⟩
        | some c =>
          rw [hl] at h1
          exact ⟨c.env, c.kind, c.num, c.rts, 0, Or.inl ⟨rfl, by simp [alv, hl]⟩, h1⟩
      have HL := hid hLk
      have HEx := hid hex
      have HVm := hid hvm
      clear hLk hex hrow hs0 hs1 hs2 hvt hvb hvm HH3 HC3
      have HS : Hid (Sq3 H (hO p0 p1) b (bdO vb vt vm s0 s1 s2) (H + 1) (.cells #[i64 p2, i64 p3] 104) w3.drew) := HS0.out.drew
      refine wp_region_noPanic ?_
      refine wrl (Sq3 H (hO p0 p1) b (bdO vb vt vm s0 s1 s2) (H + 1) (.cells #[i64 p2, i64 p3] 104)) 13 (by kernel_rfl) ?_
      refine wk 0 23 (pq b) rfl HS.out (fun W hW => by go_simp) ?_
      refine wk 1 24 (pq b) rfl HS.out (fun W hW => by go_simp) ?_
      refine wk 2 25 (.pointer (some ⟨b, 1, none⟩)) rfl HS.out (fun W hW => by go_simp) ?_
      refine wk 3 26 (vt) rfl HS.out (fun W hW => by have q0 := bkc hW.one 0; have q1 := bkc hW.one 1; have o1 := bkc hW.two 1; have k0 := bkc hW.three 0; go_simp) ?_
      refine wk 4 27 (.pointer (some ⟨H + 1, 0, none⟩)) rfl HS.out (fun W hW => by go_simp) ?_
      refine wk 5 28 (i64 p2) rfl HS.out (fun W hW => by have q0 := bkc hW.one 0; have q1 := bkc hW.one 1; have o1 := bkc hW.two 1; have k0 := bkc hW.three 0; go_simp) ?_
      refine wk 6 29 (.agg #[i64 p0, i64 p1]) rfl HS.out (fun W hW => by have q0 := bkc hW.one 0; have q1 := bkc hW.one 1; have o1 := bkc hW.two 1; have k0 := bkc hW.three 0; go_simp) ?_
      simp only [Act.put, sA, sZ, sS]
      refine wpL_two 7 11 rfl rfl (by kernel_rfl) (by rfl) (by rfl) (fun K hK => ?_) (fun K hK => ?_)
      go_simp
      refine (HL.out w3.drew (Below.refl _ _).drew).mono ?_
      rintro e w2 ⟨rfl, hb2⟩
      have hb2' : Below w3.heap.size w3 w2 := below_drew hb2
      have HS2 : Hid (Sq3 H (hO p0 p1) b (bdO vb vt vm s0 s1 s2) (H + 1) (.cells #[i64 p2, i64 p3] 104) w2) := HS0.out.below hb2'
      have HBx : Hid (Below w3.heap.size w3 w2) := hb2'
      clear hb2 hb2'
      unfold Cp.Cp.v
      go_simp
      refine hK.out _ _ (fun _ => HS2.out) ?_
      clear hK K
      refine wk 8 22 (.tuple #[.agg #[i64 ce, i64 ck, i64 cn, i64 cr], i64 ex]) rfl HS2.out (fun W hW => by go_simp) ?_
      refine wk 9 31 (.agg #[i64 ce, i64 ck, i64 cn, i64 cr]) rfl HS2.out (fun W hW => by go_simp) ?_
      refine wk 10 32 (i64 ex) rfl HS2.out (fun W hW => by go_simp) ?_
      simp only [Act.put, sA, sZ, sS]
      refine wo 11 rfl (fun K hK => ?_)
      go_simp
      refine hK.out _ _ (fun _ => HS2.out.below (bl1 w2 _)) ?_
      clear hK K
      refine wo 12 rfl (fun K hK => ?_)
      go_simp
      refine hK.out _ _ (fun _ => HS2.out.below (bl1 w2 _)) ?_
      clear hK K
      refine wo 13 rfl (fun K hK => ?_)
      go_simp
      refine hK.out _ _ (fun h => absurd rfl h) ?_
      clear hK K
      refine wdd ?_
      refine NoPanic.normal ?_
      have HBu : Hid (Below w3.heap.size w3 (w2.alloc (cO ⟨ce, ck, cn, cr⟩))) := bth HBx (bl1 w2 _)
      have HZu : Hid ((w2.alloc (cO ⟨ce, ck, cn, cr⟩)).heap[w2.heap.size]? = some (cO ⟨ce, ck, cn, cr⟩)) := hlx w2 _
      have HSu : Hid (Sq3 H (hO p0 p1) b (bdO vb vt vm s0 s1 s2) (H + 1) (.cells #[i64 p2, i64 p3] 104) (w2.alloc (cO ⟨ce, ck, cn, cr⟩))) := HS2.out.below (bl1 w2 _)
      unfold cO at HBu HZu HSu
      clear HS HS2 HBx HL HS0
      generalize w2.alloc (.cells #[i64 ce, i64 ck, i64 cn, i64 cr] 108) = U at *
      generalize w2.heap.size = Z at *
      rotate_left
      go_simp
      refine hK.out _ _ (fun _ => HS.out.below (bl1 w3.drew _)) ?_
      clear hK K
      have HSA : Hid (Sq3 H (hO p0 p1) b (bdO vb vt vm s0 s1 s2) (H + 1) (.cells #[i64 p2, i64 p3] 104) (w3.alloc (cO zC)).drew) := (HS0.out.below (bl1 w3 _)).drew
      have HZA : Hid ((w3.alloc (cO zC)).drew.heap[w3.heap.size]? = some (cO zC)) := hlx w3 _
      have HBA : Hid (Below w3.heap.size w3 (w3.alloc (cO zC)).drew) := (bl1 w3 _).drew
      have h1Z := blk_lt HS0.out.one
      have h2Z := blk_lt HS0.out.two
      have h3Z := blk_lt HS0.out.three
      unfold cO zC at HSA HZA HBA
      generalize (w3.alloc (.cells #[i64 0, i64 0, i64 0, i64 0] 108)).drew = V at *
      obtain ⟨Z, hZ⟩ : ∃ Z, w3.heap.size = Z := ⟨_, rfl⟩
      rw [hZ] at HZA h1Z h2Z h3Z ⊢
      have hZw : w3.heap.size ≤ Z := by omega
      clear HS HS0 hZ
      refine wo 7 rfl (fun K hK => ?_)
      go_simp
      refine (HL.out V HBA.out).mono ?_
      rintro e w2 ⟨rfl, hb2⟩
      have HS2 : Hid (Sq3 H (hO p0 p1) b (bdO vb vt vm s0 s1 s2) (H + 1) (.cells #[i64 p2, i64 p3] 104) w2) := HSA.out.below hb2
      have HBx : Hid (Below w3.heap.size w3 w2) := bth HBA hb2
      have HZ2 : Hid (w2.heap[Z]? = some (.cells #[i64 0, i64 0, i64 0, i64 0] 108)) := bkb HZA.out hb2
      clear hb2 HSA HBA HZA
      unfold Cp.Cp.v
      go_simp
      refine hK.out _ _ (fun _ => HS2.out) ?_
      clear hK K
      refine wk 8 22 (.tuple #[.agg #[i64 ce, i64 ck, i64 cn, i64 cr], i64 ex]) rfl HS2.out (fun W hW => by go_simp) ?_
      refine wk 9 31 (.agg #[i64 ce, i64 ck, i64 cn, i64 cr]) rfl HS2.out (fun W hW => by go_simp) ?_
      refine wk 10 32 (i64 ex) rfl HS2.out (fun W hW => by go_simp) ?_
      simp only [Act.put, sA, sZ, sS]
      have z0 : w2.cell? ⟨Z, 0, none⟩ = some (i64 0) := bkc HZ2.out 0
      have z1 : w2.cell? ⟨Z, 1, none⟩ = some (i64 0) := bkc HZ2.out 1
      have z2 : w2.cell? ⟨Z, 2, none⟩ = some (i64 0) := bkc HZ2.out 2
      have z3 : w2.cell? ⟨Z, 3, none⟩ = some (i64 0) := bkc HZ2.out 3
      have zf : ∀ j, w2.frozen? ⟨Z, j, none⟩ = false := bkf HZ2.out
      have HSu : Hid (Sq3 H (hO p0 p1) b (bdO vb vt vm s0 s1 s2) (H + 1) (.cells #[i64 p2, i64 p3] 104) ((((w2.setCell ⟨Z, 0, none⟩ (i64 ce)).setCell ⟨Z, 1, none⟩ (i64 ck)).setCell ⟨Z, 2, none⟩ (i64 cn)).setCell ⟨Z, 3, none⟩ (i64 cr))) := HS2.out.set4 (by omega) (by omega) (by omega) ⟨ce, ck, cn, cr⟩
      have HZu : Hid (((((w2.setCell ⟨Z, 0, none⟩ (i64 ce)).setCell ⟨Z, 1, none⟩ (i64 ck)).setCell ⟨Z, 2, none⟩ (i64 cn)).setCell ⟨Z, 3, none⟩ (i64 cr)).heap[Z]? = some (cO ⟨ce, ck, cn, cr⟩)) := Cp.set4 (d := zC) HZ2.out ⟨ce, ck, cn, cr⟩
      have HBu : Hid (Below w3.heap.size w3 ((((w2.setCell ⟨Z, 0, none⟩ (i64 ce)).setCell ⟨Z, 1, none⟩ (i64 ck)).setCell ⟨Z, 2, none⟩ (i64 cn)).setCell ⟨Z, 3, none⟩ (i64 cr))) := Cp.bel4 HBx.out hZw ⟨ce, ck, cn, cr⟩
      refine wo 12 rfl (fun K hK => ?_)
      go_simp
      refine hK.out _ _ (fun _ => HSu.out) ?_
      clear hK K
      refine wo 13 rfl (fun K hK => ?_)
      go_simp
      refine hK.out _ _ (fun h => absurd rfl h) ?_
      clear hK K
      refine wdd ?_
      refine NoPanic.normal ?_
      clear HS2 HBx HZ2 z0 z1 z2 z3 zf HL h1Z h2Z h3Z hZw
      unfold cO at HZu
      generalize ((((w2.setCell ⟨Z, 0, none⟩ (i64 ce)).setCell ⟨Z, 1, none⟩ (i64 ck)).setCell ⟨Z, 2, none⟩ (i64 cn)).setCell ⟨Z, 3, none⟩ (i64 cr)) = U at *
      all_goals
        have HIu : Hid (It U x.km w.heap.size Lc (M.eraseIdx j)) := HI3.out.below HBu.out
        have HDu : Hid (Bd U base b x t s T Lc R) := HD3.out.below HBu.out
        have HFu : Hid (Bf base x w U) := HF3.out.trans (Bf.of_below HBu.out HD3.out.lo')
        clear HI3 HD3 HF3 HBu HZu
        rcases HEx.out with ⟨rfl, hal⟩ | ⟨rfl, hal⟩
        · have HSk' := hid (HK.out hal)
          clear HEx HK HG hal
          go_wp2_with fail
          exact ⟨⟨Lc, M.eraseIdx j, HSk'.out, HIu, HDu, HFu⟩, by rw [HIu.out.left, hlr]; exact hmea⟩
        · have HSk' := hid (HG.out hal)
          clear HEx HK HG hal
          go_upto_region 5 with fail
          have HS : Hid (Sq2 H (hO p0 p1) b (bdO vb vt vm s0 s1 s2) U.drew) := ⟨HSu.out.one, HSu.out.two⟩
          obtain ⟨w7, hrun7, hit7, hto7, hsz7⟩ := (HIu.out.kept (w' := U.drew) rfl rfl).drop (p0, p1) HpL.out HNe.out
          have hr7 : ∀ ty, (Builtin.delete_ #[68, 43] ty #[vm, .agg #[i64 p0, i64 p1]]).run Try.prog U.drew = .ok (.tuple #[]) w7 := by rw [← HVm.out]; exact hrun7
          have HI7 := hid hit7
          have HD7 : Hid (Bd w7 base b x t s T (dl Lc (p0, p1)) R) := HDu.out.drew.bills hit7.map hto7
          have HF7 : Hid (Bf base x w w7) := HFu.out.trans (Bf.of_drew (HDu.out.drew.bills_f hto7))
          clear hrun7 hit7 hto7 hsz7 HIu HDu HFu HSu HpL HNe HVm
          refine wp_region_noPanic ?_
          refine wrl (Sq2 H (hO p0 p1) b (bdO vb vt vm s0 s1 s2)) 5 (by kernel_rfl) ?_
          refine wkp 0 35 (pq b) [1, 2, 3] rfl HS.out (fun W hW => by go_simp) ?_
          refine wkp 1 36 (pq b) [2, 3] rfl HS.out (fun W hW => by go_simp) ?_
          refine wkp 2 37 (.pointer (some ⟨b, 2, none⟩)) [3] rfl HS.out (fun W hW => by go_simp) ?_
          refine wk 3 38 (vm) rfl HS.out (fun W hW => by have q0 := bkc hW.one 0; have q1 := bkc hW.one 1; have o2 := bkc hW.two 2; go_simp) ?_
          refine wk 4 39 (.agg #[i64 p0, i64 p1]) rfl HS.out (fun W hW => by have q0 := bkc hW.one 0; have q1 := bkc hW.one 1; have o2 := bkc hW.two 2; go_simp) ?_
          simp only [Act.put, sA, sZ, sS]
          refine wo 5 rfl (fun K hK => ?_)
          go_simp
          refine hK.out _ _ (fun h => absurd rfl h) ?_
          clear hK K
          refine wdd ?_
          refine NoPanic.normal ?_
          clear HS hr7
          go_wp2_with fail
          exact ⟨⟨dl Lc (p0, p1), M.eraseIdx j, HSk'.out, HI7, HD7, HF7⟩, by rw [HI7.out.left, hlr]; exact hmea⟩
end Go.Proofs.Ytnknhencobhjdaa
